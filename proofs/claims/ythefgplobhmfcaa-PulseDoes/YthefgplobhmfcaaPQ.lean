/- A pulse that is changed: Count, Tick, of both sides. Conditions: it is the call's own. -/
import Derived.Test.YthefgplobhmfcaaPO
import Derived.Lib.AppendZerosOnto
namespace Go.Proofs.Ythefgplobhmfcaa
open Go.RowKit Ieee
theorem zeroCells_i64 (k : Nat) : (Builtin.zeroCells #[.int .i64 0] k) = ((List.replicate k (0 : Int)).map (Value.int .i64)).toArray := by
  apply Array.ext
  · simp [Builtin.zeroCells]
  · intro i h1 h2
    simp [Builtin.zeroCells, Nat.mod_one]
theorem run_append_zeros {P : Program} (w : World) (base : Nat) (t tn ty e : TypeId) (i : TypeInfo) (kq kn : IntKind) (ht : P.underlying t = some (.slice e)) (htn : P.underlying tn = some (.int kn)) (hi : P.info? e = some i) (hz : i.zero = some (.int .i64 0)) (hsize : i.size = 1) (hby : i.bytes = 8)
    (v : Value) (n : Nat) (xs : List Int) (hown : w.ownsRow base e 1 v n (xs.map (Value.int .i64))) (hn : 0 < n) (k : Nat) (hk : 0 < k) (hk2 : n + k ≤ 2000000) (hbase : base ≤ w.heap.size) :
    ∃ a' cap' w', (Builtin.append_ #[t, tn] ty #[v, .int kq k]).run P w = .ok (.slice a' (n + k) cap') w' ∧ w'.ownsRow base e 1 (.slice a' (n + k) cap') (n + k) ((xs ++ List.replicate k 0).map (Value.int .i64)) ∧ w.grownBy w' v.ownBlock ∧ (a'.map (·.block) = v.ownBlock ∨ a' = some ⟨w.heap.size, 0, none⟩) := by
  have hlen : ((xs ++ List.replicate k 0).map (Value.int .i64)).length = (n + k) * 1 := by
    have := hown.1
    simp at this ⊢
    omega
  have hzc : (Value.int .i64 0).cells = #[.int .i64 0] := rfl
  rcases hown.2 with ⟨_, rfl⟩ | ⟨g, cap, cur, rfl, hbg, hg, hnc, hcm, hcs, htake⟩
  · omega
  · by_cases hroom : n + k ≤ cap
    · have hw : IntKind.i64.wrap (k : Int) = k := by rw [IntKind.wrap_i64]; omega
      have hst := run_storeCells_at P g n e ((List.replicate k (0 : Int)).map (Value.int .i64)) 0 cur w hg (by simp; omega) (ints_oneCell _ _)
      simp only [Nat.add_zero] at hst
      have hneg : ¬ ((k : Int) < 0) := by omega
      have h48 : ¬ (281474976710656 < (k : Int) * (8 : Nat)) := by omega
      have hk0 : k ≠ 0 := by omega
      refine ⟨some ⟨g, 0, none⟩, cap, w.setRow g (cur.toList.take n ++ (List.replicate k (0 : Int)).map (Value.int .i64) ++ cur.toList.drop (n + k)).toArray, ?_, ⟨hlen, .inr ⟨g, cap, _, rfl, hbg, setRow_heap w g cur _ e _ hg, hroom, hcm, ?_, ?_⟩⟩, ⟨rfl, rfl, rfl, by simp, fun j _ hj => setRow_other w g j _ (fun e => hj (by simp [Value.ownBlock, e]))⟩, .inl rfl⟩
      · simp [Builtin.append_, run_underlying ht, run_underlying htn, sizeOf, typeInfo, zeroValue, hi, hz, asInt, asIntOf, hw, hneg, hroom, hsize, hby, hk0, hzc, zeroCells_i64, Addr.add_lit]
        rw [if_neg (by omega)]
        simp only [List.map_replicate, List.length_replicate, List.append_assoc] at hst
        rw [hst]
        rfl
      · simp only [List.size_toArray, List.length_append, List.length_take, List.length_drop, Array.length_toList, List.length_map, List.length_replicate]
        omega
      · simp only [Nat.mul_one] at htake
        rw [htake, List.map_append]
        have hl2 : ((xs.map (Value.int .i64)) ++ (List.replicate k (0 : Int)).map (Value.int .i64)).length = (n + k) * 1 := by rw [← List.map_append]; exact hlen
        rw [← hl2]
        exact List.take_left
    · have holds : (Builtin.firstCells i.size n (.slice (some ⟨g, 0, none⟩) n cap)).run P w.drew = .ok (xs.map (Value.int .i64)).toArray w.drew := by
        rw [hsize]
        exact run_firstCells_some (P := P) w.drew 1 n ⟨g, 0, none⟩ n cap (xs.map (Value.int .i64)) (by have := hown.1; simpa using this) (fun j u hj => hown.cells (g := g) rfl j u hj)
      have hr := Lib.run_append_grow_zeros (P := P) w t tn ty e i (.int .i64 0) kq kn ht htn hi hz (some ⟨g, 0, none⟩) n cap (xs.map (Value.int .i64)) holds k hk (by omega) (by omega) (by omega) (by rw [hby]; omega) (by rw [hby]; exact growslice_fits (by omega) (by omega))
      have hge := grownCap_ge w (n + k) cap e
      have hcm2 : grownCap w (n + k) cap e ≤ maxLen := grownCap_le_maxLen w (n + k) cap e (by unfold maxLen; omega)
      refine ⟨_, _, _, hr, ⟨hlen, .inr ⟨w.heap.size, _, _, rfl, hbase, heap_alloc_new w.drew _, hge, hcm2, ?_, ?_⟩⟩, ⟨rfl, rfl, rfl, by simp, fun j hj _ => heap_alloc_old w.drew _ hj⟩, .inr rfl⟩
      · simp only [Array.size_append, List.size_toArray, size_zeroCells, hzc]
        have := hown.1
        simp at this ⊢
        omega
      · rw [hzc, zeroCells_i64]
        simp only [Array.toList_append, List.map_append]
        have hl2 : ((xs.map (Value.int .i64)) ++ (List.replicate k (0 : Int)).map (Value.int .i64)).length = (n + k) * 1 := by rw [← List.map_append]; exact hlen
        rw [← hl2]
        exact List.take_left
/-- A pulse of one's own. -/
structure Pu (w : World) (base : Nat) (T : TypeId) (b g cap : Nat) (L : List Int) : Prop where
  blk : w.heap[b]? = some (.cells #[.slice (some ⟨g, 0, none⟩) L.length cap] T (0, 0))
  row : w.ownsRow base 3 1 (.slice (some ⟨g, 0, none⟩) L.length cap) L.length (L.map (Value.int .i64))
  lo : base ≤ b
  ne : b ≠ g
theorem Pu.heap {w : World} {base : Nat} {T : TypeId} {b g cap : Nat} {L : List Int} (h : Pu w base T b g cap L) : base ≤ g ∧ ∃ cur, w.heap[g]? = some (.cells cur 3 (0, 0)) ∧ L.length ≤ cap ∧ cap ≤ maxLen ∧ cur.size = cap ∧ cur.toList.take L.length = L.map (Value.int .i64) := by
  rcases h.row.2 with ⟨h0, _⟩ | ⟨g', cap', cur, e, h1, h2, h3, h4, h5, h6⟩
  · cases h0
  · cases e
    exact ⟨h1, cur, h2, h3, h4, by simpa using h5, by simpa using h6⟩
theorem Pu.pr {w : World} {base : Nat} {T : TypeId} {b g cap : Nat} {L : List Int} (h : Pu w base T b g cap L) : PR w b (some ⟨g, 0, none⟩) L.length cap L := by
  obtain ⟨his, hle⟩ := own_is h.row
  exact ⟨cell_row h.blk 0, hle, his⟩
theorem Pu.lt {w : World} {base : Nat} {T : TypeId} {b g cap : Nat} {L : List Int} (h : Pu w base T b g cap L) : b < w.heap.size ∧ g < w.heap.size := by
  obtain ⟨_, cur, h2, _⟩ := h.heap
  exact ⟨lt_of_heap h.blk, lt_of_heap h2⟩
/-- What another pulse's call leaves. -/
structure Mod (w w' : World) (base b g : Nat) : Prop where
  below : Below base w w'
  size : w.heap.size ≤ w'.heap.size
  block : ∀ k, k < w.heap.size → k ≠ b → k ≠ g → w'.heap[k]? = w.heap[k]?
theorem Mod.refl (w : World) (base b g : Nat) : Mod w w base b g := ⟨Below.refl _ _, Nat.le_refl _, fun _ _ _ _ => rfl⟩
theorem Pu.keep {w w' : World} {base : Nat} {T : TypeId} {b g cap : Nat} {L : List Int} (h : Pu w base T b g cap L) (h1 : w'.heap[b]? = w.heap[b]?) (h2 : w'.heap[g]? = w.heap[g]?) : Pu w' base T b g cap L := by
  refine ⟨h1.trans h.blk, ⟨h.row.1, ?_⟩, h.lo, h.ne⟩
  rcases h.row.2 with h0 | ⟨g', cap', cur, e, h3, h4, h5⟩
  · exact .inl h0
  · cases e
    exact .inr ⟨g, cap, cur, rfl, h3, h2.trans h4, h5⟩
theorem Pu.mod {w w' : World} {base : Nat} {T : TypeId} {b g cap d q : Nat} {L : List Int} (h : Pu w base T b g cap L) (m : Mod w w' base d q) (h1 : b ≠ d) (h2 : b ≠ q) (h3 : g ≠ d) (h4 : g ≠ q) : Pu w' base T b g cap L :=
  h.keep (m.block b h.lt.1 h1 h2) (m.block g h.lt.2 h3 h4)
theorem Pu.below {w w' : World} {base : Nat} {T : TypeId} {b g cap : Nat} {L : List Int} (h : Pu w base T b g cap L) (m : Below w.heap.size w w') : Pu w' base T b g cap L :=
  h.keep (m.block b h.lt.1) (m.block g h.lt.2)
/-- Count: the error, and the counts behind it. -/
def cntE (L : List Int) (n : Int) : Int := if n < 0 then 1 else if 1048576 - L.getD (L.length - 1) 0 < n then 2 else 0
def cntL (L : List Int) (n : Int) : List Int := if n < 0 then L else if 1048576 - L.getD (L.length - 1) 0 < n then L else L.set (L.length - 1) (L.getD (L.length - 1) 0 + n)
theorem cntL_len (L : List Int) (n : Int) : (cntL L n).length = L.length := by unfold cntL; split <;> (try split) <;> simp
theorem Cnt.count {L : List Int} (h : Cnt L) (n : Int) : Cnt (cntL L n) := by
  have hg := h.get (L.length - 1)
  refine ⟨by rw [cntL_len]; exact h.one, by rw [cntL_len]; exact h.few, fun x hx => ?_⟩
  unfold cntL at hx
  split at hx
  · exact h.each x hx
  · split at hx
    · exact h.each x hx
    · rcases List.mem_or_eq_of_mem_set hx with hx | rfl
      · exact h.each x hx
      · omega
end Go.Proofs.Ythefgplobhmfcaa
