/- A slice of packets among a law's arguments. A law of the frame; no condition beyond the form's own reach. -/
import Derived.Test.YtjjehncnjcepkaaCW
import Derived.Test.YtjjehncnjcepkaaEM
namespace Go.Proofs.Ytjjehncnjcepkaa
open Go.ChangeShapes Go.WideShapes Go.ChangeAt Go.RowKit
structure PL (w : World) (a : Option Addr) (n : Nat) (l : List (Array Value)) : Prop where
  len : l.length = n
  room : n ≤ 17592186044416
  ok : ∀ ps ∈ l, PSt ps
  cells : n = 0 ∨ ∃ b off, a = some ⟨b, off, none⟩ ∧ b < w.heap.size ∧ ∀ (i : Nat) (ps : Array Value), l[i]? = some ps → w.rangeAt b (off + i * 36) ps.toList
theorem PL.below {w w' : World} {a : Option Addr} {n : Nat} {l : List (Array Value)} (h : PL w a n l) (hb : Below w.heap.size w w') : PL w' a n l := by
  refine ⟨h.len, h.room, h.ok, ?_⟩
  rcases h.cells with h0 | ⟨b, off, e, hlt, hc⟩
  · exact .inl h0
  · exact .inr ⟨b, off, e, by have := hb.size; omega, fun i ps hi j v hj => by
      have c := hc i ps hi j v hj
      unfold World.cell? at c ⊢
      rw [show w'.heap[(⟨b, off + i * 36 + j, none⟩ : Addr).block]? = w.heap[(⟨b, off + i * 36 + j, none⟩ : Addr).block]? from hb.block b hlt]
      exact c⟩
theorem PL.at {w : World} {a : Option Addr} {n i : Nat} {l : List (Array Value)} (h : PL w a n l) (hi : i < n) : ∃ b off ps, a = some ⟨b, off, none⟩ ∧ PSt ps ∧ w.rangeAt b (off + i * 36) ps.toList ∧ l[i]? = some ps := by
  rcases h.cells with h0 | ⟨b, off, e, _, hc⟩
  · omega
  · have hl : i < l.length := by rw [h.len]; exact hi
    exact ⟨b, off, l[i], e, h.ok _ (List.getElem_mem hl), hc i _ (List.getElem?_eq_getElem hl), List.getElem?_eq_getElem hl⟩
theorem bytesPk : Try.prog.bytesOf 41 = 312 := by kernel_rfl
set_option maxRecDepth 100000 in
theorem open_packets {H : Type} {enc : TypeId × Value → H} {W : World} {v : Value} {d : DataW H} {p : List MemPlace} {r : Reach} {base : Nat} {ts : List TypeId} {ds : List (DataW H)} (j : Nat)
    (hv : Value.okWide Try.prog W r base 22 v) (h : DataW.Trod enc Try.prog W 0 (fun _ => true) true 22 v d p) (hsz : (DataW.weightsEach Try.prog ts ds).all (· ≤ reachBytes) = true) (ht : ts[j]? = some 22) (hd : ds[j]? = some d) :
    ∃ (l : List (Array Value)) (a : Option Addr) (n c : Nat), v = .slice a n c ∧ PL W a n l := by
  obtain ⟨a, len, cap, rfl⟩ := okWide_slice Try.underlying22 hv
  obtain ⟨fuel, hf⟩ := h
  have hf' : DataW.trod enc Try.prog W 0 (fun _ => true) true fuel 22 [.slice a len cap] = some (d, p) := hf
  rcases Deep.open_slice Try.underlying22 hf' with ⟨e9, _⟩ | ⟨ad, len', cap', m, k, D, Pl, e9, _, hl, hmx, hm, hy9, hel⟩
  · simp at e9
    obtain ⟨rfl, rfl, rfl⟩ := e9
    exact ⟨[], none, 0, 0, rfl, rfl, by omega, by simp, .inl rfl⟩
  · simp at e9
    obtain ⟨rfl, rfl, rfl⟩ := e9
    simp at hm
    subst hm
    have hroom : m * 36 ≤ 140737488351232 := by
      have hd2 : d = _ := congrArg Prod.fst hy9
      have hs := sized_slice hsz ht (by rw [hd, hd2]) Try.underlying22
      rw [bytesPk] at hs
      simp only [List.length_map, List.length_range, reachBytes] at hs
      omega
    have each : ∀ i, i < m → ∃ ps : Array Value, PSt ps ∧ ∀ q, q < 36 → W.cell? (ad.add (i * 36 + q)) = ps[q]? := fun i hi => by
      obtain ⟨cs', q1, q2⟩ := hel i hi
      rw [cells_packet] at q1
      obtain ⟨_, hlen, hcell⟩ := World.cells?_some q1
      refine ⟨cs'.toArray, pst_of (by simpa using hlen) (by simpa using q2), fun q hq => ?_⟩
      have := hcell q hq
      rw [Deep.add_add] at this
      simpa using this
    obtain ⟨q, hq⟩ := Deep.choose_lt each
    refine ⟨(List.range len).map q, some ad, len, m, rfl, by simp, by omega, ?_, ?_⟩
    · intro t ht
      obtain ⟨i, hi, rfl⟩ := List.mem_map.1 ht
      exact (hq i (by have := List.mem_range.1 hi; omega)).1
    by_cases h0 : len = 0
    · exact .inl h0
    · obtain ⟨b, off, spot⟩ := ad
      obtain ⟨p0, hp0⟩ := hq 0 (by omega)
      have hc0 := hp0 0 (by omega)
      have hx0 : (q 0)[0]? = some ((q 0)[0]'(by rw [p0.size]; omega)) := Array.getElem?_eq_getElem _
      rw [hx0] at hc0
      have hspot : spot = none := by
        simpa [Addr.add] using World.cell?_spot hc0
      subst hspot
      refine .inr ⟨b, off, rfl, ?_, fun i t hi => ?_⟩
      · rw [Addr.add_mid] at hc0
        exact cell_lt hc0
      rw [List.getElem?_map] at hi
      have hi' : i < len := by
        rcases Nat.lt_or_ge i len with h | h
        · exact h
        · simp [h] at hi
      simp [hi'] at hi
      subst hi
      intro u v hv9
      have hu : u < 36 := by
        have h1 := (List.getElem?_eq_some_iff.1 hv9).1
        rw [Array.length_toList, (hq i (by omega)).1.size] at h1
        exact h1
      have := (hq i (by omega)).2 u hu
      rw [Addr.add_mid, ← Nat.add_assoc] at this
      rw [this, ← hv9, Array.getElem?_toList]
end Go.Proofs.Ytjjehncnjcepkaa
