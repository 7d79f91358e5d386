/- rising, and the function that it answers: the least number that none has. Conditions: as said. -/
import Derived.Test.YthejehbhjkmeeaaKJ
namespace Go.Proofs.Ythejehbhjkmeeaa
open Go.RowKit
/-- Old blocks stay, but for some. -/
structure FrP (P : Nat → Prop) (w w' : World) : Prop where
  base : Below 0 w w'
  block : ∀ k, k < w.heap.size → ¬ P k → w'.heap[k]? = w.heap[k]?
theorem FrP.refl (P : Nat → Prop) (w : World) : FrP P w w := ⟨Below.refl _ _, fun _ _ _ => rfl⟩
theorem FrP.size {P : Nat → Prop} {w w' : World} (h : FrP P w w') : w.heap.size ≤ w'.heap.size := h.base.size
theorem FrP.trans {P : Nat → Prop} {w w1 w2 : World} (h : FrP P w w1) (g : FrP P w1 w2) : FrP P w w2 := ⟨h.base.trans g.base, fun k hk hn => (g.block k (Nat.lt_of_lt_of_le hk h.size) hn).trans (h.block k hk hn)⟩
theorem FrP.mono {P Q : Nat → Prop} {w w' : World} (h : FrP P w w') (hPQ : ∀ k, k < w.heap.size → P k → Q k) : FrP Q w w' := ⟨h.base, fun k hk hn => h.block k hk (fun hp => hn (hPQ k hk hp))⟩
theorem FrP.of {P : Nat → Prop} {w w' : World} (h : Below w.heap.size w w') : FrP P w w' := ⟨h.mono (Nat.zero_le _), fun k hk _ => h.block k hk⟩
theorem FrP.fr {mb : Nat} {w w' : World} (h : Fr mb w w') : FrP (· = mb) w w' := ⟨h.below.mono (Nat.zero_le _), fun k hk hn => h.block k hk hn⟩
theorem FrP.cell {P : Nat → Prop} {w w' : World} (h : FrP P w w') {b o : Nat} (hb : b < w.heap.size) (hn : ¬ P b) : w'.cell? ⟨b, o, none⟩ = w.cell? ⟨b, o, none⟩ := by
  unfold World.cell?; simp only [h.block b hb hn]
theorem FrP.to {P : Nat → Prop} {w0 w w' : World} (hb : Below w0.heap.size w0 w) (h : FrP P w w') (hP : ∀ k, P k → w0.heap.size ≤ k) : Below w0.heap.size w0 w' := by
  refine ⟨h.base.os.trans hb.os, h.base.tape.trans hb.tape, h.base.output.trans hb.output, Nat.le_trans hb.size h.size, fun k hk => ?_⟩
  exact (h.block k (Nat.lt_of_lt_of_le hk hb.size) (fun hp => by have := hP k hp; omega)).trans (hb.block k hk)
theorem FrP.set {w : World} {g o : Nat} {v : Value} : FrP (· = g) w (w.setCell ⟨g, o, none⟩ v) := ⟨((Below.refl g w).setCell (Nat.le_refl _) v).mono (Nat.zero_le _), fun _ _ hn => Below.heap_setCell _ _ _ _ hn⟩
/-- The least number above L, at most L + f, that none has. -/
def nextN (H : List Int) : Nat → Int → Option Int
  | 0, _ => none
  | f + 1, L => if L + 1 ∈ H then nextN H f (L + 1) else some (L + 1)
theorem nextN_some {H : List Int} : ∀ {f : Nat} {L n : Int}, nextN H f L = some n → L < n ∧ n ≤ L + f ∧ n ∉ H ∧ ∀ m, L < m → m < n → m ∈ H
  | 0, L, n, h => by simp [nextN] at h
  | f + 1, L, n, h => by
    unfold nextN at h
    split at h
    · rename_i hm
      obtain ⟨h1, h2, h3, h4⟩ := nextN_some h
      refine ⟨by omega, by omega, h3, fun m hm1 hm2 => ?_⟩
      by_cases e : m = L + 1
      · rw [e]; exact hm
      · exact h4 m (by omega) hm2
    · rename_i hm
      cases h
      exact ⟨by omega, by omega, hm, fun m h1 h2 => by omega⟩
theorem nextN_none {H : List Int} : ∀ {f : Nat} {L : Int}, nextN H f L = none → ∀ m, L < m → m ≤ L + f → m ∈ H
  | 0, L, _ => fun m h1 h2 => by omega
  | f + 1, L, h => by
    unfold nextN at h
    split at h
    · rename_i hm
      intro m h1 h2
      by_cases e : m = L + 1
      · rw [e]; exact hm
      · exact nextN_none h m (by omega) (by omega)
    · cases h
/-- What stands where numbers are given: the last one given, the pool. -/
structure NS (w : World) (lb pb mb : Nat) (most L : Int) (H : List Int) : Prop where
  last : w.heap[lb]? = some (.cells #[.int .i64 L] 3 (0, 0))
  box : w.heap[pb]? = some (.cells #[.map (some mb), .int .i64 most] 59 (0, 0))
  pool : PoolAt w mb H
theorem NS.ne {w : World} {lb pb mb : Nat} {most L : Int} {H : List Int} (h : NS w lb pb mb most L H) : lb ≠ pb ∧ lb ≠ mb ∧ pb ≠ mb := by
  obtain ⟨l, c, h1, _⟩ := h.pool
  refine ⟨fun e => ?_, fun e => ?_, fun e => ?_⟩
  · have a := h.last; rw [e, h.box] at a; simp at a
  · have a := h.last; rw [e, h1] at a; simp at a
  · have a := h.box; rw [e, h1] at a; simp at a
theorem NS.keep {P : Nat → Prop} {w w' : World} {lb pb mb : Nat} {most L : Int} {H : List Int} (h : NS w lb pb mb most L H) (hf : FrP P w w') (h1 : ¬ P lb) (h2 : ¬ P pb) (h3 : ¬ P mb) : NS w' lb pb mb most L H := by
  obtain ⟨l, c, q1, q2⟩ := h.pool
  exact ⟨(hf.block _ (lt_of_heap h.last) h1).trans h.last, (hf.block _ (lt_of_heap h.box) h2).trans h.box, ⟨l, c, (hf.block _ (lt_of_heap q1) h3).trans q1, q2⟩⟩
set_option maxHeartbeats 400000 in
theorem rising_any (mb : Nat) (most : Int) (H : List Int) (w : World) (h : PoolAt w mb H) : Calls Try.prog 28 #[poolV mb most] w fun e w' => e = .returned (.func (.func 34) #[] #[.pointer (some ⟨w.heap.size + 1, 0, none⟩), .pointer (some ⟨w.heap.size, 0, none⟩)]) ∧ NS w' (w.heap.size + 1) w.heap.size mb most 0 H ∧ Below w.heap.size w w' := by
  have HP : Hid _ := h
  clear h
  unfold poolV
  go_enter Try.func28, Try.ntmps28
  go_wp2
  go_ret
  exact ⟨rfl, ⟨two_last _ _ _, two_first _ _ _, PoolAt.below HP.out (below2 _ _ _)⟩, below2 _ _ _⟩
/-- What the function that rising answers does. -/
def NextPost (w : World) (lb pb mb : Nat) (most : Int) (H : List Int) (r : Option Int) (e : Ending) (w' : World) : Prop :=
  FrP (fun k => k = lb ∨ k = mb) w w' ∧ match r with
  | some n => e = .returned (.tuple #[.int .i64 n, .bool true]) ∧ NS w' lb pb mb most n (H ++ [n])
  | none => e = .returned (.tuple #[.int .i64 0, .bool false])
def lastOf (w : World) (lb : Nat) : Int := match w.cell? ⟨lb, 0, none⟩ with
  | some (.int _ z) => z
  | _ => 0
theorem NS.lastOf {w : World} {lb pb mb : Nat} {most L : Int} {H : List Int} (h : NS w lb pb mb most L H) : lastOf w lb = L := by
  have : w.cell? ⟨lb, 0, none⟩ = some (.int .i64 L) := cell_row h.last 0
  unfold Go.Proofs.Ythejehbhjkmeeaa.lastOf; rw [this]
theorem NS.set {w : World} {lb pb mb : Nat} {most L : Int} {H : List Int} (h : NS w lb pb mb most L H) (L' : Int) : NS (w.setCell ⟨lb, 0, none⟩ (.int .i64 L')) lb pb mb most L' H := by
  have hne := h.ne
  obtain ⟨l, c, q1, q2⟩ := h.pool
  refine ⟨?_, (Below.heap_setCell _ _ _ _ (fun e => hne.1 e.symm)).trans h.box, ⟨l, c, (Below.heap_setCell _ _ _ _ (fun e => hne.2.1 e.symm)).trans q1, q2⟩⟩
  exact row_setCell h.last 0 _
theorem NS.took {w w' : World} {lb pb mb : Nat} {most L : Int} {H H' : List Int} (h : NS w lb pb mb most L H) (hf : Fr mb w w') (hp : PoolAt w' mb H') : NS w' lb pb mb most L H' := by
  have hne := h.ne
  exact ⟨(hf.block _ (lt_of_heap h.last) hne.2.1).trans h.last, (hf.block _ (lt_of_heap h.box) hne.2.2).trans h.box, hp⟩
theorem NS.cells {w : World} {lb pb mb : Nat} {most L : Int} {H : List Int} (h : NS w lb pb mb most L H) : w.cell? ⟨lb, 0, none⟩ = some (.int .i64 L) ∧ w.frozen? ⟨lb, 0, none⟩ = false ∧ w.cell? ⟨pb, 1, none⟩ = some (.int .i64 most) := ⟨cell_row h.last 0, frozen_of_row w lb 0 _ _ h.last, cell_row h.box 1⟩
set_option maxRecDepth 20000 in
set_option maxHeartbeats 1000000 in
theorem next_any (lb pb mb : Nat) (most L : Int) (H : List Int) (w : World) (h : NS w lb pb mb most L H) (h0 : 0 ≤ L) (hm : most ≤ 16777215) :
    Calls Try.prog 34 #[.pointer (some ⟨lb, 0, none⟩), .pointer (some ⟨pb, 0, none⟩)] w fun e w' => NextPost w lb pb mb most H (nextN H (most - L).toNat L) e w' := by
  have hne := h.ne
  have HN : Hid _ := h
  clear h
  go_enter Try.func34, Try.ntmps34
  go_wp2_with fail
  go_loopw [] (fun wr => ∃ L' : Int, 0 ≤ L' ∧ Hid (nextN H (most - L').toNat L' = nextN H (most - L).toNat L) ∧ Hid (NS wr lb pb mb most L' H) ∧ Hid (FrP (fun k => k = lb ∨ k = mb) w wr)) (fun wr => (most - lastOf wr lb).toNat)
  case atStart => exact ⟨L, h0, rfl, HN, FrP.refl _ _⟩
  case round =>
    obtain ⟨L', hL0, HX, HNR, HF⟩ := hrel
    have HLO : Hid _ := HNR.out.lastOf
    obtain ⟨e0, e1, e2⟩ := HNR.out.cells
    by_cases hlt : L' < most
    · have hw1 : IntKind.i64.wrap (L' + 1) = L' + 1 := by simp [IntKind.wrap, IntKind.bits, IntKind.signed]; omega
      have HN2 : Hid (NS (wr.setCell ⟨lb, 0, none⟩ (.int .i64 (L' + 1))) lb pb mb most (L' + 1) H) := HNR.out.set (L' + 1)
      have HF2 : Hid (FrP (fun k => k = lb ∨ k = mb) w (wr.setCell ⟨lb, 0, none⟩ (.int .i64 (L' + 1)))) := HF.out.trans (FrP.set.mono (fun k _ hk => .inl hk))
      obtain ⟨d0, d1, d2⟩ := HN2.out.cells
      obtain ⟨f, hf⟩ : ∃ f, (most - L').toNat = f + 1 := ⟨(most - L').toNat - 1, by omega⟩
      have hf2 : (most - (L' + 1)).toNat = f := by omega
      have HXE : Hid (nextN H (most - L).toNat L = if L' + 1 ∈ H then nextN H (most - (L' + 1)).toNat (L' + 1) else some (L' + 1)) := by show _ = _; rw [← HX.out, hf, hf2]; rfl
      have HTB : Hid (takeB H most (L' + 1) = !(decide (L' + 1 ∈ H))) := by
        show _ = _
        unfold takeB
        rw [decide_eq_true (show 1 ≤ L' + 1 by omega), decide_eq_true (show L' + 1 ≤ most by omega)]; simp
      clear hf hf2 HX
      go_wp2_with (first
        | refine wpList_load_row rfl 59 _ rfl pb rfl 59 #[.map (some mb), .int .i64 most] (0, 0) _ HN2.out.box Try.underlying59 rfl size59 ?_
        | fail)
      refine (take_any mb H most (L' + 1) _ HN2.out.pool).mono ?_
      rintro e W3 ⟨rfl, hp3, hf3⟩
      have HN3 : Hid _ := HN2.out.took hf3 hp3
      have HF3 : Hid (FrP (fun k => k = lb ∨ k = mb) w W3) := HF2.out.trans ((FrP.fr hf3).mono (fun k _ hk => .inr hk))
      obtain ⟨g0, g1, g2⟩ := HN3.out.cells
      rw [HTB.out]
      clear hp3 hf3
      by_cases hin : L' + 1 ∈ H
      · rw [decide_eq_true hin]
        have HX2 : Hid (nextN H (most - (L' + 1)).toNat (L' + 1) = nextN H (most - L).toNat L) := by show _ = _; rw [HXE.out, if_pos hin]
        have HN4 : Hid (NS W3 lb pb mb most (L' + 1) H) := by
          have := HN3.out
          unfold takeH at this
          rw [HTB.out, decide_eq_true hin] at this
          exact this
        clear HN3 hin HXE HTB
        go_wp2
        go_roundw
        case rel => exact ⟨L' + 1, by omega, HX2, HN4, HF3⟩
        case measure =>
          have q1 := HN4.out.lastOf
          have q2 := HLO.out
          rw [q1, q2]; omega
      · rw [decide_eq_false hin]
        have HX2 : Hid (nextN H (most - L).toNat L = some (L' + 1)) := by show _ = _; rw [HXE.out, if_neg hin]
        have HN4 : Hid (NS W3 lb pb mb most (L' + 1) (H ++ [L' + 1])) := by
          have := HN3.out
          unfold takeH at this
          rw [HTB.out, decide_eq_false hin] at this
          exact this
        clear HN3 hin HXE HTB
        go_wp2
        go_ret2
        unfold NextPost
        rw [HX2.out]
        exact ⟨HF3.out, rfl, HN4.out⟩
    · have HX2 : Hid (nextN H (most - L).toNat L = none) := by show _ = _; rw [← HX.out, show (most - L').toNat = 0 by omega]; rfl
      clear HX
      go_wp2
      go_ret2
      unfold NextPost
      rw [HX2.out]
      exact ⟨HF.out, rfl⟩
end Go.Proofs.Ythejehbhjkmeeaa
