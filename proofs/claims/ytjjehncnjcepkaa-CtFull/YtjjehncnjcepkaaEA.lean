/- A queue of connections that end at one time: nothing moves (container/heap's up, down, Fix). Conditions: as said. -/
import Derived.Test.YtjjehncnjcepkaaCO
import Derived.Lib.Hide
namespace Go.Proofs.Ytjjehncnjcepkaa
open Go.RowKit
/-- A queue in its table: its entries' blocks in their order; all end at one time. -/
structure QAt (w : World) (tb qg qc : Nat) (E : List Nat) (ex : Int) : Prop where
  cell : w.cell? ⟨tb, 3, none⟩ = some (.slice (some ⟨qg, 0, none⟩) E.length qc)
  cap : E.length ≤ qc
  room : E.length ≤ 100000
  row : ∀ (i e : Nat), E[i]? = some e → w.cell? ⟨qg, i, none⟩ = some (.pointer (some ⟨e, 0, none⟩))
  ends : ∀ (i e : Nat), E[i]? = some e → w.cell? ⟨e, 12, none⟩ = some (.int .i64 ex)
theorem QAt.drewN {w : World} {tb qg qc : Nat} {E : List Nat} {ex : Int} (h : QAt w tb qg qc E ex) (k : Nat) : QAt (w.drewN k) tb qg qc E ex := ⟨h.cell, h.cap, h.room, h.row, h.ends⟩
theorem get9 {E : List Nat} {i : Nat} (h : i < E.length) : ∃ e, E[i]? = some e := ⟨E[i], List.getElem?_eq_getElem h⟩
theorem drewN_add (w : World) (a b : Nat) : (w.drewN a).drewN b = w.drewN (a + b) := by
  simp [World.drewN, Nat.add_assoc]
set_option maxRecDepth 20000 in
set_option maxHeartbeats 4000000 in
theorem less_eq {w : World} {tb qg qc : Nat} {E : List Nat} {ex : Int} (h : QAt w tb qg qc E ex) {i j : Nat} (hi : i < E.length) (hj : j < E.length) :
    Calls Try.prog 90 #[.slice (some ⟨qg, 0, none⟩) E.length qc, .int .i64 i, .int .i64 j] w fun e w' => e = .returned (.bool false) ∧ ∃ k, w' = w.drewN k := by
  obtain ⟨e1, h1⟩ := get9 hi
  obtain ⟨e2, h2⟩ := get9 hj
  have a1 := h.row i e1 h1
  have a2 := h.row j e2 h2
  have b1 := h.ends i e1 h1
  have b2 := h.ends j e2 h2
  have hiI : (i : Int) < E.length := by omega
  have hjI : (j : Int) < E.length := by omega
  have hi0 : (0 : Int) ≤ i := by omega
  have hj0 : (0 : Int) ≤ j := by omega
  clear h h1 h2
  go_enter Try.func90, Try.ntmps90
  go_wp2_with (go_quiet (fail))
  go_ret
  exact ⟨by simp, _, rfl⟩
set_option maxRecDepth 20000 in
set_option maxHeartbeats 4000000 in
theorem up_eq {w : World} {tb qg qc : Nat} {E : List Nat} {ex : Int} (h : QAt w tb qg qc E ex) {i : Nat} (hi : i < E.length) :
    Calls Try.prog 61 #[.iface 95 (.pointer (some ⟨tb, 3, none⟩)), .int .i64 i] w fun e w' => e = .returned (.tuple #[]) ∧ ∃ k, w' = w.drewN k := by
  by_cases h0 : i = 0
  · subst h0
    refine (up_zero _ w).mono ?_
    rintro e w' ⟨rfl, rfl⟩
    exact ⟨rfl, 0, rfl⟩
  have H : Hid _ := h
  have hr := h.room
  have hq : ((i : Int) - 1).tdiv 2 = (((i - 1) / 2 : Nat) : Int) := by rw [Int.tdiv_eq_ediv_of_nonneg (by omega)]; omega
  have hp : (i - 1) / 2 < E.length := by omega
  have hne : ¬ (((i - 1) / 2 : Nat) : Int) = (i : Int) := by omega
  generalize (i - 1) / 2 = p at *
  have hwp : IntKind.i64.wrap (p : Int) = (p : Int) := by simp [IntKind.wrap, IntKind.bits, IntKind.signed]; omega
  have hw1 : IntKind.i64.wrap ((i : Int) - 1) = (i : Int) - 1 := by simp [IntKind.wrap, IntKind.bits, IntKind.signed]; omega
  have hneb : ((p : Int) == (i : Int)) = false := by simp; omega
  have hm := meth_less h.cell
  clear h
  go_enter Try.func61, Try.ntmps61
  go_wp2_with fail
  go_loopw [1] (fun v wr => v = .int .i64 i ∧ wr = w) (fun _ _ => 0)
  case atStart => exact ⟨rfl, rfl⟩
  case round =>
    obtain ⟨rfl, rfl⟩ := hrel
    go_wp2_with fail
    refine (less_eq H.out hi hp).mono ?_
    rintro e W ⟨rfl, k, hk⟩
    have HK := Lib.hid hk
    clear hk hm
    go_wp2
    go_end0
    exact ⟨rfl, k, HK.out⟩
set_option maxRecDepth 20000 in
set_option maxHeartbeats 4000000 in
theorem down_eq {w : World} {tb qg qc : Nat} {E : List Nat} {ex : Int} (h : QAt w tb qg qc E ex) {i n : Nat} (hi : i < E.length) (hn : n ≤ E.length) :
    Calls Try.prog 60 #[.iface 95 (.pointer (some ⟨tb, 3, none⟩)), .int .i64 i, .int .i64 n] w fun e w' => e = .returned (.bool false) ∧ ∃ k, w' = w.drewN k := by
  have H : Hid _ := h
  have hr := h.room
  have hm := meth_less h.cell
  have hw1 : IntKind.i64.wrap (2 * (i : Int)) = 2 * (i : Int) := by simp [IntKind.wrap, IntKind.bits, IntKind.signed]; omega
  have hw2 : IntKind.i64.wrap (2 * (i : Int) + 1) = 2 * (i : Int) + 1 := by simp [IntKind.wrap, IntKind.bits, IntKind.signed]; omega
  have hw3 : IntKind.i64.wrap (2 * (i : Int) + 1 + 1) = 2 * (i : Int) + 1 + 1 := by simp [IntKind.wrap, IntKind.bits, IntKind.signed]; omega
  clear h
  by_cases h1 : 2 * i + 1 < n
  · have h1I : ¬ (n : Int) ≤ 2 * (i : Int) + 1 := by omega
    have h10 : ¬ 2 * (i : Int) + 1 < 0 := by omega
    have hj : 2 * i + 1 < E.length := by omega
    have HL := Lib.hid (fun k => less_eq (H.out.drewN k) hj hi)
    have HM := Lib.hid (fun k => meth_less (H.out.drewN k).cell)
    rw [show ((2 * i + 1 : Nat) : Int) = 2 * (i : Int) + 1 by omega] at HL
    by_cases h2 : 2 * i + 1 + 1 < n
    · have h2I : 2 * (i : Int) + 1 + 1 < (n : Int) := by omega
      have HL2 := Lib.hid (less_eq H.out (show 2 * i + 1 + 1 < E.length by omega) hj)
      rw [show ((2 * i + 1 + 1 : Nat) : Int) = 2 * (i : Int) + 1 + 1 by omega, show ((2 * i + 1 : Nat) : Int) = 2 * (i : Int) + 1 by omega] at HL2
      go_enter Try.func60, Try.ntmps60
      go_wp2_with fail
      go_loopw [7] (fun v wr => v = .int .i64 i ∧ wr = w) (fun _ _ => 0)
      case atStart => exact ⟨rfl, rfl⟩
      case round =>
        obtain ⟨rfl, rfl⟩ := hrel
        go_wp2_with fail
        refine HL2.out.mono ?_
        rintro e W ⟨rfl, k, hk⟩
        rw [hk]
        clear hk
        have hm2 := HM.out k
        go_wp2_with fail
        refine (HL.out k).mono ?_
        rintro e W ⟨rfl, k2, hk2⟩
        rw [hk2]
        clear hk2 hm hm2
        go_wp2
        go_ret
        exact ⟨by simp, _, rfl⟩
    · have h2I : ¬ 2 * (i : Int) + 1 + 1 < (n : Int) := by omega
      go_enter Try.func60, Try.ntmps60
      go_wp2_with fail
      go_loopw [7] (fun v wr => v = .int .i64 i ∧ wr = w) (fun _ _ => 0)
      case atStart => exact ⟨rfl, rfl⟩
      case round =>
        obtain ⟨rfl, rfl⟩ := hrel
        go_wp2_with fail
        refine (HL.out 0).mono ?_
        rintro e W ⟨rfl, k2, hk2⟩
        rw [hk2]
        clear hk2 hm
        go_wp2
        go_ret
        exact ⟨by simp, _, rfl⟩
  · have h1I : (n : Int) ≤ 2 * (i : Int) + 1 := by omega
    go_enter Try.func60, Try.ntmps60
    go_wp2_with fail
    go_loopw [7] (fun v wr => v = .int .i64 i ∧ wr = w) (fun _ _ => 0)
    case atStart => exact ⟨rfl, rfl⟩
    case round =>
      obtain ⟨rfl, rfl⟩ := hrel
      go_wp2
      go_ret
      exact ⟨by simp, 0, rfl⟩
set_option maxRecDepth 20000 in
set_option maxHeartbeats 4000000 in
theorem fix_eq {w : World} {tb qg qc : Nat} {E : List Nat} {ex : Int} (h : QAt w tb qg qc E ex) {i : Nat} (hi : i < E.length) :
    Calls Try.prog 40 #[.iface 95 (.pointer (some ⟨tb, 3, none⟩)), .int .i64 i] w fun e w' => e = .returned (.tuple #[]) ∧ ∃ k, w' = w.drewN k := by
  have H : Hid _ := h
  have hm := meth_len h.cell
  clear h
  go_enter Try.func40, Try.ntmps40
  go_wp2_with fail
  refine (qLen_any _ _ _ _).mono ?_
  rintro e W2 ⟨rfl, hw2⟩
  rw [hw2]
  clear hw2 hm
  go_wp2_with fail
  refine (down_eq H.out hi (Nat.le_refl _)).mono ?_
  rintro e W3 ⟨rfl, k, hw3⟩
  rw [hw3]
  clear hw3
  go_wp2_with fail
  refine (up_eq (H.out.drewN k) hi).mono ?_
  rintro e W3 ⟨rfl, k2, hw3⟩
  rw [hw3]
  clear hw3
  go_wp2
  go_end0
  exact ⟨rfl, _, rfl⟩
end Go.Proofs.Ytjjehncnjcepkaa
