/- Two pulses side by side; calls in memory. Conditions: what is read can be read. -/
import Derived.Test.YthefgplobhmfcaaPS1
import Derived.Deep.RegionHeld3
namespace Go.Proofs.Ythefgplobhmfcaa
open Go.RowKit Ieee
/-- The program's pulse and the document's. -/
structure TwoP (w wr : World) (b d : Nat) (L1 L2 : List Int) : Prop where
  bel : Below w.heap.size w wr
  all : ∃ g cap q cap2, Pu wr w.heap.size 55 b g cap L1 ∧ Pu wr w.heap.size 28 d q cap2 L2 ∧ b ≠ d ∧ b ≠ q ∧ g ≠ d ∧ g ≠ q
theorem TwoP.below {w wr w' : World} {b d : Nat} {L1 L2 : List Int} (h : TwoP w wr b d L1 L2) (hb : Below wr.heap.size wr w') : TwoP w w' b d L1 L2 := by
  obtain ⟨hB, g, cap, q, cap2, h1, h2, hn⟩ := h
  exact ⟨hB.trans (hb.mono hB.size), g, cap, q, cap2, h1.below hb, h2.below hb, hn⟩
theorem TwoP.p {w wr : World} {b d : Nat} {L1 L2 : List Int} (h : TwoP w wr b d L1 L2) : ∃ a n c, PR wr b a n c L1 := by
  obtain ⟨hB, g, cap, q, cap2, h1, h2, hn⟩ := h
  exact ⟨_, _, _, h1.pr⟩
theorem TwoP.x {w wr : World} {b d : Nat} {L1 L2 : List Int} (h : TwoP w wr b d L1 L2) : ∃ a n c, PR wr d a n c L2 := by
  obtain ⟨hB, g, cap, q, cap2, h1, h2, hn⟩ := h
  exact ⟨_, _, _, h2.pr⟩
theorem TwoP.step1 {w wr : World} {b d : Nat} {L1 L2 L' : List Int} {g cap q cap2 : Nat} {r : Int} {e : Ending} {w' : World} (hB : Below w.heap.size w wr) (h1 : Pu wr w.heap.size 55 b g cap L1) (h2 : Pu wr w.heap.size 28 d q cap2 L2) (hn : b ≠ d ∧ b ≠ q ∧ g ≠ d ∧ g ≠ q)
    (hc : ChgPost wr w.heap.size 55 b g r L' e w') : e = .returned (.int .i64 r) ∧ TwoP w w' b d L' L2 := by
  obtain ⟨he, hm, g', cap', hp, hg⟩ := hc
  have l1 := h2.lt
  refine ⟨he, hB.trans hm.below, g', cap', q, cap2, hp, h2.mod hm hn.1.symm hn.2.2.1.symm hn.2.1.symm hn.2.2.2.symm, hn.1, hn.2.1, ?_, ?_⟩
  · rcases hg with rfl | hg
    · exact hn.2.2.1
    · omega
  · rcases hg with rfl | hg
    · exact hn.2.2.2
    · omega
theorem TwoP.step2 {w wr : World} {b d : Nat} {L1 L2 L' : List Int} {g cap q cap2 : Nat} {r : Int} {e : Ending} {w' : World} (hB : Below w.heap.size w wr) (h1 : Pu wr w.heap.size 55 b g cap L1) (h2 : Pu wr w.heap.size 28 d q cap2 L2) (hn : b ≠ d ∧ b ≠ q ∧ g ≠ d ∧ g ≠ q)
    (hc : ChgPost wr w.heap.size 28 d q r L' e w') : e = .returned (.int .i64 r) ∧ TwoP w w' b d L1 L' := by
  obtain ⟨he, hm, g', cap', hp, hg⟩ := hc
  have l1 := h1.lt
  refine ⟨he, hB.trans hm.below, g, cap, g', cap', h1.mod hm hn.1 hn.2.1 hn.2.2.1 hn.2.2.2, hp, hn.1, ?_, hn.2.2.1, ?_⟩
  · rcases hg with rfl | hg
    · exact hn.2.1
    · omega
  · rcases hg with rfl | hg
    · exact hn.2.2.2
    · omega
theorem two_count {w wr : World} {b d : Nat} {L1 L2 : List Int} (h : TwoP w wr b d L1 L2) (hL : Cnt L1) (n : Int) : Calls Try.prog 11 #[.pointer (some ⟨b, 0, none⟩), .int .i64 n] wr fun e w' => e = .returned (.int .i64 (cntE L1 n)) ∧ Hid (TwoP w w' b d (cntL L1 n) L2) := by
  obtain ⟨hB, g, cap, q, cap2, h1, h2, hn⟩ := h
  exact (count_any _ b g cap L1 n wr h1 hL).mono fun e w' hc => TwoP.step1 hB h1 h2 hn hc
theorem two_rcount {w wr : World} {b d : Nat} {L1 L2 : List Int} (h : TwoP w wr b d L1 L2) (hL : Cnt L2) (n : Int) : Calls Try.prog 12 #[.pointer (some ⟨d, 0, none⟩), .int .i64 n] wr fun e w' => e = .returned (.int .i64 (cntE L2 n)) ∧ Hid (TwoP w w' b d L1 (cntL L2 n)) := by
  obtain ⟨hB, g, cap, q, cap2, h1, h2, hn⟩ := h
  exact (rcount_any _ d q cap2 L2 n wr h2 hL).mono fun e w' hc => TwoP.step2 hB h1 h2 hn hc
theorem two_tick {w wr : World} {b d : Nat} {L1 L2 : List Int} (h : TwoP w wr b d L1 L2) (hL : Cnt L1) (n : Int) : Calls Try.prog 13 #[.pointer (some ⟨b, 0, none⟩), .int .i64 n] wr fun e w' => e = .returned (.int .i64 (tckE L1 n)) ∧ Hid (TwoP w w' b d (tckL L1 n) L2) := by
  obtain ⟨hB, g, cap, q, cap2, h1, h2, hn⟩ := h
  exact (tick_any _ b g cap L1 n wr h1 hL hB.size).mono fun e w' hc => TwoP.step1 hB h1 h2 hn hc
theorem two_rtick {w wr : World} {b d : Nat} {L1 L2 : List Int} (h : TwoP w wr b d L1 L2) (hL : Cnt L2) (n : Int) : Calls Try.prog 14 #[.pointer (some ⟨d, 0, none⟩), .int .i64 n] wr fun e w' => e = .returned (.int .i64 (tckE L2 n)) ∧ Hid (TwoP w w' b d L1 (tckL L2 n)) := by
  obtain ⟨hB, g, cap, q, cap2, h1, h2, hn⟩ := h
  exact (rtick_any _ d q cap2 L2 n wr h2 hL hB.size).mono fun e w' hc => TwoP.step2 hB h1 h2 hn hc
/-- Calls in memory. -/
structure Opd where
  k : Int
  n : Int
def OpAt (w : World) (b o : Nat) (t : Opd) : Prop := w.cell? ⟨b, o, none⟩ = some (.int .i64 t.k) ∧ w.cell? ⟨b, o + 1, none⟩ = some (.int .i64 t.n)
structure OS (w : World) (a : Option Addr) (n : Nat) (ts : List Opd) : Prop where
  len : ts.length = n
  room : n * 16 ≤ 140737488351232
  cells : n = 0 ∨ ∃ b off, a = some ⟨b, off, none⟩ ∧ ∀ i t, ts[i]? = some t → OpAt w b (off + i * 2) t
theorem OpAt.below {w w' : World} {b o : Nat} {t : Opd} (h : OpAt w b o t) (hb : Below w.heap.size w w') : OpAt w' b o t :=
  ⟨(hb.cell (cell_lt h.1)).trans h.1, (hb.cell (cell_lt h.2)).trans h.2⟩
theorem OS.at {w : World} {a : Option Addr} {n k : Nat} {ts : List Opd} {t : Opd} (h : OS w a n ts) (ht : ts[k]? = some t) : ∃ b off, a = some ⟨b, off, none⟩ ∧ OpAt w b (off + k * 2) t := by
  rcases h.cells with h0 | ⟨b, off, e, hc⟩
  · have := (List.getElem?_eq_some_iff.1 ht).1
    have := h.len
    omega
  · exact ⟨b, off, e, hc k t ht⟩
/-- New. -/
theorem new_any (w : World) : Calls Try.prog 9 #[] w fun e w' => e = .returned (.pointer (some ⟨w.heap.size + 1, 0, none⟩)) ∧ w' = (w.alloc (.cells #[.int .i64 0] 3)).alloc (.cells #[.slice (some ⟨w.heap.size, 0, none⟩) 1 1] 55) := by
  go_enter Try.func9, Try.ntmps9
  go_wp2
  go_ret
  exact ⟨rfl, rfl⟩
theorem cnt_zero : Cnt [0] := Cnt.of (by decide)
theorem start_two (w : World) : TwoP w ((((w.alloc (.cells #[.int .i64 0] 3)).alloc (.cells #[.slice (some ⟨w.heap.size, 0, none⟩) 1 1] 55)).alloc (.cells #[.int .i64 0] 3)).alloc (.cells #[.slice (some ⟨w.heap.size + 1 + 1, 0, none⟩) 1 1] 28)) (w.heap.size + 1) (w.heap.size + 1 + 1 + 1) [0] [0] := by
  have r : ∀ (W : World) (g : Nat), w.heap.size ≤ g → W.heap[g]? = some (.cells #[.int .i64 0] 3 (0, 0)) → W.ownsRow w.heap.size 3 1 (.slice (some ⟨g, 0, none⟩) ([0] : List Int).length 1) ([0] : List Int).length (([0] : List Int).map (Value.int .i64)) :=
    fun W g hg h => ⟨rfl, .inr ⟨g, 1, _, rfl, hg, h, Nat.le_refl _, by decide, rfl, rfl⟩⟩
  refine ⟨below4 w _ _ _ _, w.heap.size, 1, w.heap.size + 1 + 1, 1, ⟨?_, r _ _ (Nat.le_refl _) (four_first _ _ _ _ _), by omega, by omega⟩, ⟨four_last _ _ _ _ _, r _ _ (by omega) ?_, by omega, by omega⟩, by omega, by omega, by omega, by omega⟩
  · exact (heap_alloc_old _ _ (by simp)).trans ((heap_alloc_old _ _ (by simp)).trans (two_last _ _ _))
  · exact (heap_alloc_old _ _ (by simp)).trans (three_last _ _ _ _)
end Go.Proofs.Ythefgplobhmfcaa
