/- What EncodeArp of the reference answers on an ARP packet that fits. Condition: numbers that are not negative. -/
import Derived.Test.YtfjhahofmmbleaaEncArp
import Derived.Deep.RegionHeld3
import Derived.Deep.RegionWith
import Derived.Deep.DrawnRows
import Derived.Deep.RegionLaw

namespace Go.Proofs.Ytfjhahofmmbleaa
open Go.RowKit
attribute [local go_sem ↓] Go.wp_at_zero Go.wp_at_succ

set_option maxHeartbeats 4000000 in
theorem rencodeArp_yes (op sha spa tha tpa : Int) (w : World) (h1 : 0 ≤ sha) (h2 : 0 ≤ spa ∧ spa ≤ 4294967295) (h3 : 0 ≤ tha) (h4 : 0 ≤ tpa ∧ tpa ≤ 4294967295) (h : arpFits op sha tha = true) :
    Calls Try.prog 16 #[.agg #[.int .i64 op, .int .u64 sha, .int .u32 spa, .int .u64 tha, .int .u32 tpa]] w fun e w' => ∃ a cap, e = .returned (.tuple #[.slice a 28 cap, .int .i64 0]) ∧ BS w' a 28 (arpBytes op sha spa tha tpa) ∧ Below w.heap.size w w' := by
  have hfit := h
  simp only [arpFits, Bool.and_eq_true, decide_eq_true_eq] at hfit
  obtain ⟨⟨f1, f2⟩, f3⟩ := hfit
  have f3' := wordB_yes f3
  have g1 : ¬ 281474976710656 ≤ sha := by omega
  have g2 : ¬ 281474976710656 ≤ tha := by omega
  clear h
  go_enter Try.func16, Try.ntmps16
  go_wp2_with (go_at_call 24; refine (sixteen_any _ _).mono ?_; rintro e w' ⟨rfl, rfl⟩)
  clear f3 g1 g2
  have A0 := atB_new w #[.int .i64 op, .int .u64 sha, .int .u32 spa, .int .u64 tha, .int .u32 tpa] 36 w.heap.size rfl
  have hbw := below1 w (.cells #[.int .i64 op, .int .u64 sha, .int .u32 spa, .int .u64 tha, .int .u32 tpa] 36)
  generalize (w.alloc (.cells #[.int .i64 op, .int .u64 sha, .int .u32 spa, .int .u64 tha, .int .u32 tpa] 36)) = w1 at *
  obtain ⟨x0, x1, x2, x3, x4⟩ := A0.five
  have hlt : Hid (w.heap.size < w1.heap.size) := A0.1
  have wo : IntKind.u64.wrap op = op := by rw [IntKind.wrap_u64]; omega
  have ws : IntKind.u64.wrap spa = spa := by rw [IntKind.wrap_u64]; omega
  have wt : IntKind.u64.wrap tpa = tpa := by rw [IntKind.wrap_u64]; omega
  clear A0
  have hS := Below.refl w1.heap.size w1
  go_region_held3 (fun W => W.cell? ⟨w.heap.size, 0, none⟩ = some (.int .i64 op) ∧ Below w1.heap.size w1 W)
    (first
      | (refine ⟨?_, ?_⟩ <;> assumption)
      | exact ⟨x0, Below.drew (by assumption)⟩
      | exact ⟨x0, by assumption⟩
      | exact ⟨((by assumption : RB w1 _ _ _ _).bel.cell hlt.out).trans x0, (by assumption : RB w1 _ _ _ _).bel⟩)
    (first
      | (go_at_call_of 25 (Value.int .u64 4429186564); refine (bytes_first (w1 := w1) made6 (by omega) ?_ _ ?_).mono ?_; (first | exact (by assumption : _ ∧ Below w1.heap.size w1 _).2 | assumption | exact Below.drew (by assumption)); omega; rintro e W1 ⟨a1, rfl, r1⟩)
      | (go_at_call_of 25 (Value.int .u64 op); refine (bytes_next made2 (by omega) r1 _ ?_).mono ?_; omega; rintro e W2 ⟨a2, rfl, r2, b2⟩)
      | (refine step_append_rb Try.underlying22 info5 ?_ (.tmp 19) (.tmp 23) ?_ _ _ _ ?_ r2 _ _ 2 _ ?_ b2 ?_ ?_; rfl; rfl; rfl; rfl; simp; intro a3 c3 W3 r3)
      | fail)
  have R3 : Hid (RB w1 W3 (.slice a3 8 c3) 8 (be 4429186564 6 ++ be op 2)) := r3
  have y1 := (r3.bel.cell hlt.out).trans x1
  have y2 := (r3.bel.cell hlt.out).trans x2
  clear r1 r2 r3 b2 hS x0
  go_wp2
  go_region_held3 (fun W => W.cell? ⟨w.heap.size, 1, none⟩ = some (.int .u64 sha) ∧ W.cell? ⟨w.heap.size, 2, none⟩ = some (.int .u32 spa) ∧ Below w1.heap.size w1 W)
    (first
      | exact ⟨y1, y2, R3.out.bel⟩
      | exact ⟨y1, y2, R3.out.bel.drew⟩
      | exact ⟨((by assumption : RB w1 _ _ _ _).bel.cell hlt.out).trans x1, ((by assumption : RB w1 _ _ _ _).bel.cell hlt.out).trans x2, (by assumption : RB w1 _ _ _ _).bel⟩)
    (first
      | (go_at_call_of 25 (Value.int .u64 sha); refine (bytes_next made6 (by omega) R3.out.drew _ ?_).mono ?_; omega; rintro e W4 ⟨a4, rfl, r4, b4⟩)
      | (refine step_append_rb Try.underlying22 info5 ?_ (.tmp 25) (.tmp 28) ?_ _ _ _ ?_ r4 _ _ 6 _ ?_ b4 ?_ ?_; rfl; rfl; rfl; rfl; simp; intro a5 c5 W5 r5)
      | (go_at_call_of 25 (Value.int .u64 spa); refine (bytes_next made4 (by omega) r5 _ ?_).mono ?_; omega; rintro e W6 ⟨a6, rfl, r6, b6⟩)
      | (refine step_append_rb Try.underlying22 info5 ?_ (.tmp 29) (.tmp 33) ?_ _ _ _ ?_ r6 _ _ 4 _ ?_ b6 ?_ ?_; rfl; rfl; rfl; rfl; simp; intro a7 c7 W7 r7)
      | fail)
  have R7 : Hid (RB w1 W7 (.slice a7 18 c7) 18 (be 4429186564 6 ++ be op 2 ++ be sha 6 ++ be spa 4)) := r7
  have z3 := (r7.bel.cell hlt.out).trans x3
  have z4 := (r7.bel.cell hlt.out).trans x4
  clear r4 r5 r6 r7 b4 b6 R3 y1 y2 x1 x2
  go_wp2
  go_region_held3 (fun W => W.cell? ⟨w.heap.size, 3, none⟩ = some (.int .u64 tha) ∧ W.cell? ⟨w.heap.size, 4, none⟩ = some (.int .u32 tpa) ∧ Below w1.heap.size w1 W)
    (first
      | exact ⟨z3, z4, R7.out.bel⟩
      | exact ⟨z3, z4, R7.out.bel.drew⟩
      | exact ⟨((by assumption : RB w1 _ _ _ _).bel.cell hlt.out).trans x3, ((by assumption : RB w1 _ _ _ _).bel.cell hlt.out).trans x4, (by assumption : RB w1 _ _ _ _).bel⟩)
    (first
      | (go_at_call_of 25 (Value.int .u64 tha); refine (bytes_next made6 (by omega) R7.out.drew _ ?_).mono ?_; omega; rintro e W8 ⟨a8, rfl, r8, b8⟩)
      | (refine step_append_rb Try.underlying22 info5 ?_ (.tmp 35) (.tmp 38) ?_ _ _ _ ?_ r8 _ _ 6 _ ?_ b8 ?_ ?_; rfl; rfl; rfl; rfl; simp; intro a9 c9 W9 r9)
      | (go_at_call_of 25 (Value.int .u64 tpa); refine (bytes_next made4 (by omega) r9 _ ?_).mono ?_; omega; rintro e W10 ⟨a10, rfl, r10, b10⟩)
      | (refine step_append_rb Try.underlying22 info5 ?_ (.tmp 39) (.tmp 43) ?_ _ _ _ ?_ r10 _ _ 4 _ ?_ b10 ?_ ?_; rfl; rfl; rfl; rfl; simp; intro a11 c11 W11 r11)
      | fail)
  have hbs : BS W11 a11 28 (arpBytes op sha spa tha tpa) := by
    have h33 : be 4429186564 6 = [0, 1, 8, 0, 6, 4] := by decide
    have := own_bs (n := 28) (by simpa using r11.own) (fits_append (fits_append (fits_append (fits_append (fits_append (be_bd 4429186564 6) (be_bd op 2)) (be_bd sha 6)) (be_bd spa 4)) (be_bd tha 6)) (be_bd tpa 4)) (by omega)
    simpa [arpBytes, h33] using this
  go_wp2
  go_ret2
  exact ⟨a11, c11, rfl, hbs, hbw.trans (r11.bel.mono (Nat.le_of_lt hlt.out))⟩
end Go.Proofs.Ytfjhahofmmbleaa
