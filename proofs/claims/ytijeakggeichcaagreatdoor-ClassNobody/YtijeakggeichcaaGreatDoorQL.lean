/- What a State says, field by field, each read once. Conditions: as said. -/
import Derived.Test.YtijeakggeichcaaGreatDoorQK
import Derived.Test.YtijeakggeichcaaGreatDoorFN
import Derived.Lib.Hide
namespace Go.Proofs.YtijeakggeichcaaGreatDoor
open Go.RowKit
/-- The number of a field, as a State says it. -/
def gv (f : Nat) (cs : Array Value) : Int := if hasF f cs then bits BinOp.and IntKind.u64 (rdF f cs) (2 ^ fBits f - 1) else 0
def Rd1 (A : Array Value) (cs : Array Value) (f : Nat) : Prop :=
  (∃ x y, A[f * 3]? = some (.bool false) ∧ A[f * 3 + 1]? = some (.bool x) ∧ A[f * 3 + 2]? = some (.int .u64 y)) ∨ (A[f * 3]? = some (.bool true) ∧ A[f * 3 + 1]? = some (.bool (hasF f cs)) ∧ A[f * 3 + 2]? = some (.int .u64 (gv f cs)))
/-- The State that is asked, and what was read of it. -/
structure RD (w : World) (cs : Array Value) (b1 b2 : Nat) : Prop where
  st : w.heap[b1]? = some (.cells cs 50 (0, 0))
  rd : ∃ A, w.heap[b2]? = some (.cells A 107 (0, 0)) ∧ A.size = 87 ∧ ∀ f : Nat, f ≤ 28 → Rd1 A cs f
theorem RD.of {w w' : World} {cs : Array Value} {b1 b2 : Nat} (h : RD w cs b1 b2) (hb : Below w.heap.size w w') : RD w' cs b1 b2 := by
  obtain ⟨A, h1, h2⟩ := h.rd
  exact ⟨(hb.block _ (lt_of_heap h.st)).trans h.st, A, (hb.block _ (lt_of_heap h1)).trans h1, h2⟩
theorem RD.ne {w : World} {cs : Array Value} {b1 b2 : Nat} (h : RD w cs b1 b2) : b1 ≠ b2 := fun e => by
  subst e
  obtain ⟨A, h1, _⟩ := h.rd
  rw [h.st] at h1
  injection h1 with h1
  injection h1 with _ h1
  exact absurd h1 (by decide)
/-- All but one block, and what is new, stays. -/
structure But (b : Nat) (w w' : World) : Prop where
  keep : ∀ g, g < w.heap.size → g ≠ b → w'.heap[g]? = w.heap[g]?
  size : w.heap.size ≤ w'.heap.size
  os : w'.os = w.os
  tape : w'.tape = w.tape
  output : w'.output = w.output
theorem But.refl (b : Nat) (w : World) : But b w w := ⟨fun _ _ _ => rfl, Nat.le_refl _, rfl, rfl, rfl⟩
theorem But.trans {b : Nat} {w w1 w2 : World} (h : But b w w1) (h2 : But b w1 w2) : But b w w2 :=
  ⟨fun g hg hn => (h2.keep g (Nat.lt_of_lt_of_le hg h.size) hn).trans (h.keep g hg hn), Nat.le_trans h.size h2.size, h2.os.trans h.os, h2.tape.trans h.tape, h2.output.trans h.output⟩
theorem But.ofBelow {b : Nat} {w w' : World} (h : Below w.heap.size w w') : But b w w' := ⟨fun g hg _ => h.block g hg, h.size, h.os, h.tape, h.output⟩
theorem But.below {b : Nat} {w w' : World} (h : But b w w') (hb : b ≤ w.heap.size) : Below b w w' := ⟨h.os, h.tape, h.output, h.size, fun g hg => h.keep g (by omega) (by omega)⟩
theorem size3d : (Tryz.prog.info? 106).map (·.size) = some 3 := by kernel_rfl
theorem one3 (a b : Bool) (v : Int) : (#[.bool a, .bool b, .int .u64 v] : Array Value).all (·.oneCell') = true := by simp [Value.oneCell']
theorem put3 (A : Array Value) (o : Nat) (x y z : Value) (h : o + 3 ≤ A.size) : (putC A o [x, y, z])[o]? = some x ∧ (putC A o [x, y, z])[o + 1]? = some y ∧ (putC A o [x, y, z])[o + 2]? = some z ∧ ∀ j, (j < o ∨ o + 3 ≤ j) → (putC A o [x, y, z])[j]? = A[j]? := by
  simp only [putC]
  refine ⟨?_, ?_, ?_, fun j hj => ?_⟩
  · rw [Array.getElem?_setIfInBounds_ne (by omega), Array.getElem?_setIfInBounds_ne (by omega), Array.getElem?_setIfInBounds_self_of_lt (by omega)]
  · rw [Array.getElem?_setIfInBounds_ne (by omega), Array.getElem?_setIfInBounds_self_of_lt (by simp; omega)]
  · rw [Array.getElem?_setIfInBounds_self_of_lt (by simp; omega)]
  · rw [Array.getElem?_setIfInBounds_ne (by omega), Array.getElem?_setIfInBounds_ne (by omega), Array.getElem?_setIfInBounds_ne (by omega)]
set_option linter.unusedSimpArgs false in
set_option maxRecDepth 20000 in
set_option maxHeartbeats 2000000 in
theorem tell_any {w : World} {cs : Array Value} {b1 b2 : Nat} (h : RD w cs b1 b2) (hst : St cs) (f : Nat) (hf : 1 ≤ f) (hf2 : f ≤ 28) (m : Int) :
    Calls Tryz.prog 41 #[.int .i64 f, .int .u64 m, .pointer (some ⟨b2, 0, none⟩), .pointer (some ⟨b1, 0, none⟩)] w fun e w' => e = .returned (.tuple #[.int .u64 (bits BinOp.and IntKind.u64 (gv f cs) m), .bool (hasF f cs)]) ∧ RD w' cs b1 b2 ∧ But b2 w w' := by
  obtain ⟨A, hA, hs, hr⟩ := h.rd
  have HR : Hid _ := h
  have HA : Hid _ := hA
  have HS : Hid _ := hs
  have HRR : Hid _ := hr
  have hfI : (f : Int) < 29 := by omega
  have hf0 : (0 : Int) ≤ f := by omega
  rcases hr f hf2 with ⟨x, y, r0, r1, r2⟩ | ⟨r0, r1, r2⟩
  · have c0 : w.cell? ⟨b2, f * 3, none⟩ = some (.bool false) := (cell_row hA _).trans r0
    have HST : Hid _ := h.st
    have HI : Hid _ := info_size hst.size
    have HG : Hid _ := get_any f hf hf2 cs hst w
    clear h hA hs hr r0 r1 r2
    go_enter Tryz.func41, Tryz.ntmps41
    go_wp2_with (first
      | refine wpList_load_row rfl 50 _ rfl b1 rfl 50 cs (0, 0) _ HST.out Tryz.underlying50 rfl HI.out ?_
      | fail)
    refine Calls.mono HG.out ?_
    rintro e W ⟨he, hb⟩
    have HB : Hid _ := hb
    have A1 : Hid (W.heap[b2]? = some (.cells A 107 (0, 0))) := (hb.block _ (lt_of_heap HA.out)).trans HA.out
    obtain ⟨g, hg⟩ : ∃ g, hasF f cs = g := ⟨_, rfl⟩
    obtain ⟨v, hv⟩ : ∃ v, gv f cs = v := ⟨_, rfl⟩
    have e9 : e = .returned (.tuple #[.int .u64 v, .int .i64 (if g then 0 else 81)]) := by
      rw [he, ← hv, ← hg]
      unfold gv
      cases hasF f cs <;> rfl
    subst e9
    have P3 : Hid _ := put3 A (f * 3) (.bool true) (.bool g) (.int .u64 v) (by rw [HS.out]; omega)
    have HGG : Hid _ := hg
    have HVV : Hid _ := hv
    clear he hb hg hv HG HST HI c0
    cases g
    · go_wp2_with (first
        | refine wpList_store_at rfl 106 _ _ rfl b2 (f * 3) A #[.bool true, .bool false, .int .u64 v] 107 rfl rfl A1.out size3d (by rw [HS.out]; show f * 3 + 3 ≤ 87; omega) (one3 _ _ _) ?_
        | fail)
      intro W9 z1 z2 z3 z4
      have d1 : W9.cell? ⟨b2, f * 3 + 1, none⟩ = some (.bool false) := (cell_row z1 _).trans P3.out.2.1
      have d2 : W9.cell? ⟨b2, f * 3 + 2, none⟩ = some (.int .u64 v) := (cell_row z1 _).trans P3.out.2.2.1
      have RD9 : Hid (RD W9 cs b1 b2) := by
        refine ⟨(z2 b1 HR.out.ne).trans ((HB.out.block _ (lt_of_heap HR.out.st)).trans HR.out.st), _, z1, by rw [putC_size]; exact HS.out, fun j hj => ?_⟩
        by_cases hjf : j = f
        · subst hjf
          refine .inr ⟨P3.out.1, ?_, ?_⟩
          · rw [HGG.out]; exact P3.out.2.1
          · rw [HVV.out]; exact P3.out.2.2.1
        · have o := P3.out.2.2.2
          unfold Rd1
          have q : ∀ k, k < 3 → (putC A (f * 3) [.bool true, .bool false, .int .u64 v])[j * 3 + k]? = A[j * 3 + k]? := fun k hk => o _ (by omega)
          have q0 := q 0 (by omega)
          have q1 := q 1 (by omega)
          have q2 := q 2 (by omega)
          rw [Nat.add_zero] at q0
          rw [q0, q1, q2]
          exact HRR.out j hj
      have BT9 : Hid (But b2 w W9) := ⟨fun k hk hn => (z2 k hn).trans (HB.out.block k hk), by rw [z3]; exact HB.out.size, z4.os.trans HB.out.os, z4.tape.trans HB.out.tape, z4.output.trans HB.out.output⟩
      clear z1 z2 z3 z4
      go_wp2
      go_quiet (fail)
      go_wp2
      go_ret2
      exact ⟨by rw [HGG.out, HVV.out]; rfl, ⟨RD9.out.st, RD9.out.rd⟩, ⟨BT9.out.keep, BT9.out.size, BT9.out.os, BT9.out.tape, BT9.out.output⟩⟩
    · go_wp2_with (first
        | refine wpList_store_at rfl 106 _ _ rfl b2 (f * 3) A #[.bool true, .bool true, .int .u64 v] 107 rfl rfl A1.out size3d (by rw [HS.out]; show f * 3 + 3 ≤ 87; omega) (one3 _ _ _) ?_
        | fail)
      intro W9 z1 z2 z3 z4
      have d1 : W9.cell? ⟨b2, f * 3 + 1, none⟩ = some (.bool true) := (cell_row z1 _).trans P3.out.2.1
      have d2 : W9.cell? ⟨b2, f * 3 + 2, none⟩ = some (.int .u64 v) := (cell_row z1 _).trans P3.out.2.2.1
      have RD9 : Hid (RD W9 cs b1 b2) := by
        refine ⟨(z2 b1 HR.out.ne).trans ((HB.out.block _ (lt_of_heap HR.out.st)).trans HR.out.st), _, z1, by rw [putC_size]; exact HS.out, fun j hj => ?_⟩
        by_cases hjf : j = f
        · subst hjf
          refine .inr ⟨P3.out.1, ?_, ?_⟩
          · rw [HGG.out]; exact P3.out.2.1
          · rw [HVV.out]; exact P3.out.2.2.1
        · have o := P3.out.2.2.2
          unfold Rd1
          have q : ∀ k, k < 3 → (putC A (f * 3) [.bool true, .bool true, .int .u64 v])[j * 3 + k]? = A[j * 3 + k]? := fun k hk => o _ (by omega)
          have q0 := q 0 (by omega)
          have q1 := q 1 (by omega)
          have q2 := q 2 (by omega)
          rw [Nat.add_zero] at q0
          rw [q0, q1, q2]
          exact HRR.out j hj
      have BT9 : Hid (But b2 w W9) := ⟨fun k hk hn => (z2 k hn).trans (HB.out.block k hk), by rw [z3]; exact HB.out.size, z4.os.trans HB.out.os, z4.tape.trans HB.out.tape, z4.output.trans HB.out.output⟩
      clear z1 z2 z3 z4
      go_wp2
      go_quiet (fail)
      go_wp2
      go_ret2
      exact ⟨by rw [HGG.out, HVV.out]; rfl, ⟨RD9.out.st, RD9.out.rd⟩, ⟨BT9.out.keep, BT9.out.size, BT9.out.os, BT9.out.tape, BT9.out.output⟩⟩
  · have c0 : w.cell? ⟨b2, f * 3, none⟩ = some (.bool true) := (cell_row hA _).trans r0
    have c1 : w.cell? ⟨b2, f * 3 + 1, none⟩ = some (.bool (hasF f cs)) := (cell_row hA _).trans r1
    have c2 : w.cell? ⟨b2, f * 3 + 2, none⟩ = some (.int .u64 (gv f cs)) := (cell_row hA _).trans r2
    clear h hA hs hr r0 r1 r2
    go_enter Tryz.func41, Tryz.ntmps41
    go_wp2
    go_quiet (fail)
    go_wp2
    go_ret2
    exact ⟨rfl, ⟨HR.out.st, HR.out.rd⟩, ⟨fun _ _ _ => rfl, Nat.le_refl _, rfl, rfl, rfl⟩⟩
end Go.Proofs.YtijeakggeichcaaGreatDoor
