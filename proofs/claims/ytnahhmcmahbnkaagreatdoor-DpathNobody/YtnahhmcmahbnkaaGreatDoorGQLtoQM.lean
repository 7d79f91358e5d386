/- What a State says, field by field, each read once. Conditions: as said. -/
import Derived.Test.YtnahhmcmahbnkaaGreatDoorQK
import Derived.Test.YtnahhmcmahbnkaaGreatDoorFN
import Derived.Lib.Hide
import Derived.ArgAppend
namespace Go.Proofs.YtnahhmcmahbnkaaGreatDoor
open Go.RowKit
/-- The number of a field, as a State says it. -/
def gv (f : Nat) (cs : Array Value) : Int := if hasF f cs then bits BinOp.and IntKind.u64 (rdF f cs) (2 ^ fBits f - 1) else 0
def Rd1 (A : Array Value) (cs : Array Value) (f : Nat) : Prop :=
  (∃ x y, A[f * 3]? = some (.bool false) ∧ A[f * 3 + 1]? = some (.bool x) ∧ A[f * 3 + 2]? = some (.int .u64 y)) ∨ (A[f * 3]? = some (.bool true) ∧ A[f * 3 + 1]? = some (.bool (hasF f cs)) ∧ A[f * 3 + 2]? = some (.int .u64 (gv f cs)))
/-- The State that is asked, and what was read of it. -/
structure RD (w : World) (cs : Array Value) (b1 b2 : Nat) : Prop where
  st : w.heap[b1]? = some (.cells cs 38 (0, 0))
  rd : ∃ A, w.heap[b2]? = some (.cells A 201 (0, 0)) ∧ A.size = 87 ∧ ∀ f : Nat, f ≤ 28 → Rd1 A cs f
theorem RD.of {w w' : World} {cs : Array Value} {b1 b2 : Nat} (h : RD w cs b1 b2) (hb : Below w.heap.size w w') : RD w' cs b1 b2 := by
  obtain ⟨A, h1, h2⟩ := h.rd
  exact ⟨(hb.block _ (lt_of_heap h.st)).trans h.st, A, (hb.block _ (lt_of_heap h1)).trans h1, h2⟩
theorem RD.ne {w : World} {cs : Array Value} {b1 b2 : Nat} (h : RD w cs b1 b2) : b1 ≠ b2 := fun e => by
  subst e
  obtain ⟨A, h1, _⟩ := h.rd
  rw [h.st] at h1
  injection h1 with h1
  injection h1 with _ h1
  exact absurd h1 (by decide)
/-- All but one block, and what is new, stays. -/
structure But (b : Nat) (w w' : World) : Prop where
  keep : ∀ g, g < w.heap.size → g ≠ b → w'.heap[g]? = w.heap[g]?
  size : w.heap.size ≤ w'.heap.size
  os : w'.os = w.os
  tape : w'.tape = w.tape
  output : w'.output = w.output
theorem But.refl (b : Nat) (w : World) : But b w w := ⟨fun _ _ _ => rfl, Nat.le_refl _, rfl, rfl, rfl⟩
theorem But.trans {b : Nat} {w w1 w2 : World} (h : But b w w1) (h2 : But b w1 w2) : But b w w2 :=
  ⟨fun g hg hn => (h2.keep g (Nat.lt_of_lt_of_le hg h.size) hn).trans (h.keep g hg hn), Nat.le_trans h.size h2.size, h2.os.trans h.os, h2.tape.trans h.tape, h2.output.trans h.output⟩
theorem But.ofBelow {b : Nat} {w w' : World} (h : Below w.heap.size w w') : But b w w' := ⟨fun g hg _ => h.block g hg, h.size, h.os, h.tape, h.output⟩
theorem But.below {b : Nat} {w w' : World} (h : But b w w') (hb : b ≤ w.heap.size) : Below b w w' := ⟨h.os, h.tape, h.output, h.size, fun g hg => h.keep g (by omega) (by omega)⟩
theorem size3d : (Tryz.prog.info? 200).map (·.size) = some 3 := by kernel_rfl
theorem one3 (a b : Bool) (v : Int) : (#[.bool a, .bool b, .int .u64 v] : Array Value).all (·.oneCell') = true := by simp [Value.oneCell']
theorem put3 (A : Array Value) (o : Nat) (x y z : Value) (h : o + 3 ≤ A.size) : (putC A o [x, y, z])[o]? = some x ∧ (putC A o [x, y, z])[o + 1]? = some y ∧ (putC A o [x, y, z])[o + 2]? = some z ∧ ∀ j, (j < o ∨ o + 3 ≤ j) → (putC A o [x, y, z])[j]? = A[j]? := by
  simp only [putC]
  refine ⟨?_, ?_, ?_, fun j hj => ?_⟩
  · rw [Array.getElem?_setIfInBounds_ne (by omega), Array.getElem?_setIfInBounds_ne (by omega), Array.getElem?_setIfInBounds_self_of_lt (by omega)]
  · rw [Array.getElem?_setIfInBounds_ne (by omega), Array.getElem?_setIfInBounds_self_of_lt (by simp; omega)]
  · rw [Array.getElem?_setIfInBounds_self_of_lt (by simp; omega)]
  · rw [Array.getElem?_setIfInBounds_ne (by omega), Array.getElem?_setIfInBounds_ne (by omega), Array.getElem?_setIfInBounds_ne (by omega)]
set_option linter.unusedSimpArgs false in
set_option maxRecDepth 20000 in
set_option maxHeartbeats 2000000 in
theorem tell_any {w : World} {cs : Array Value} {b1 b2 : Nat} (h : RD w cs b1 b2) (hst : St cs) (f : Nat) (hf : 1 ≤ f) (hf2 : f ≤ 28) (m : Int) :
    Calls Tryz.prog 97 #[.int .i64 f, .int .u64 m, .pointer (some ⟨b2, 0, none⟩), .pointer (some ⟨b1, 0, none⟩)] w fun e w' => e = .returned (.tuple #[.int .u64 (bits BinOp.and IntKind.u64 (gv f cs) m), .bool (hasF f cs)]) ∧ RD w' cs b1 b2 ∧ But b2 w w' := by
  obtain ⟨A, hA, hs, hr⟩ := h.rd
  have HR : Hid _ := h
  have HA : Hid _ := hA
  have HS : Hid _ := hs
  have HRR : Hid _ := hr
  have hfI : (f : Int) < 29 := by omega
  have hf0 : (0 : Int) ≤ f := by omega
  rcases hr f hf2 with ⟨x, y, r0, r1, r2⟩ | ⟨r0, r1, r2⟩
  · have c0 : w.cell? ⟨b2, f * 3, none⟩ = some (.bool false) := (cell_row hA _).trans r0
    have HST : Hid _ := h.st
    have HI : Hid _ := info_size hst.size
    have HG : Hid _ := get_any f hf hf2 cs hst w
    clear h hA hs hr r0 r1 r2
    go_enter Tryz.func97, Tryz.ntmps97
    go_wp2_with (first
      | refine wpList_load_row rfl 38 _ rfl b1 rfl 38 cs (0, 0) _ HST.out Tryz.underlying38 rfl HI.out ?_
      | fail)
    refine Calls.mono HG.out ?_
    rintro e W ⟨he, hb⟩
    have HB : Hid _ := hb
    have A1 : Hid (W.heap[b2]? = some (.cells A 201 (0, 0))) := (hb.block _ (lt_of_heap HA.out)).trans HA.out
    obtain ⟨g, hg⟩ : ∃ g, hasF f cs = g := ⟨_, rfl⟩
    obtain ⟨v, hv⟩ : ∃ v, gv f cs = v := ⟨_, rfl⟩
    have e9 : e = .returned (.tuple #[.int .u64 v, .int .i64 (if g then 0 else 81)]) := by
      rw [he, ← hv, ← hg]
      unfold gv
      cases hasF f cs <;> rfl
    subst e9
    have P3 : Hid _ := put3 A (f * 3) (.bool true) (.bool g) (.int .u64 v) (by rw [HS.out]; omega)
    have HGG : Hid _ := hg
    have HVV : Hid _ := hv
    clear he hb hg hv HG HST HI c0
    cases g
    · go_wp2_with (first
        | refine wpList_store_at rfl 200 _ _ rfl b2 (f * 3) A #[.bool true, .bool false, .int .u64 v] 201 rfl rfl A1.out size3d (by rw [HS.out]; show f * 3 + 3 ≤ 87; omega) (one3 _ _ _) ?_
        | fail)
      intro W9 z1 z2 z3 z4
      have d1 : W9.cell? ⟨b2, f * 3 + 1, none⟩ = some (.bool false) := (cell_row z1 _).trans P3.out.2.1
      have d2 : W9.cell? ⟨b2, f * 3 + 2, none⟩ = some (.int .u64 v) := (cell_row z1 _).trans P3.out.2.2.1
      have RD9 : Hid (RD W9 cs b1 b2) := by
        refine ⟨(z2 b1 HR.out.ne).trans ((HB.out.block _ (lt_of_heap HR.out.st)).trans HR.out.st), _, z1, by rw [putC_size]; exact HS.out, fun j hj => ?_⟩
        by_cases hjf : j = f
        · subst hjf
          refine .inr ⟨P3.out.1, ?_, ?_⟩
          · rw [HGG.out]; exact P3.out.2.1
          · rw [HVV.out]; exact P3.out.2.2.1
        · have o := P3.out.2.2.2
          unfold Rd1
          have q : ∀ k, k < 3 → (putC A (f * 3) [.bool true, .bool false, .int .u64 v])[j * 3 + k]? = A[j * 3 + k]? := fun k hk => o _ (by omega)
          have q0 := q 0 (by omega)
          have q1 := q 1 (by omega)
          have q2 := q 2 (by omega)
          rw [Nat.add_zero] at q0
          rw [q0, q1, q2]
          exact HRR.out j hj
      have BT9 : Hid (But b2 w W9) := ⟨fun k hk hn => (z2 k hn).trans (HB.out.block k hk), by rw [z3]; exact HB.out.size, z4.os.trans HB.out.os, z4.tape.trans HB.out.tape, z4.output.trans HB.out.output⟩
      clear z1 z2 z3 z4
      go_wp2
      go_quiet (fail)
      go_wp2
      go_ret2
      exact ⟨by rw [HGG.out, HVV.out]; rfl, ⟨RD9.out.st, RD9.out.rd⟩, ⟨BT9.out.keep, BT9.out.size, BT9.out.os, BT9.out.tape, BT9.out.output⟩⟩
    · go_wp2_with (first
        | refine wpList_store_at rfl 200 _ _ rfl b2 (f * 3) A #[.bool true, .bool true, .int .u64 v] 201 rfl rfl A1.out size3d (by rw [HS.out]; show f * 3 + 3 ≤ 87; omega) (one3 _ _ _) ?_
        | fail)
      intro W9 z1 z2 z3 z4
      have d1 : W9.cell? ⟨b2, f * 3 + 1, none⟩ = some (.bool true) := (cell_row z1 _).trans P3.out.2.1
      have d2 : W9.cell? ⟨b2, f * 3 + 2, none⟩ = some (.int .u64 v) := (cell_row z1 _).trans P3.out.2.2.1
      have RD9 : Hid (RD W9 cs b1 b2) := by
        refine ⟨(z2 b1 HR.out.ne).trans ((HB.out.block _ (lt_of_heap HR.out.st)).trans HR.out.st), _, z1, by rw [putC_size]; exact HS.out, fun j hj => ?_⟩
        by_cases hjf : j = f
        · subst hjf
          refine .inr ⟨P3.out.1, ?_, ?_⟩
          · rw [HGG.out]; exact P3.out.2.1
          · rw [HVV.out]; exact P3.out.2.2.1
        · have o := P3.out.2.2.2
          unfold Rd1
          have q : ∀ k, k < 3 → (putC A (f * 3) [.bool true, .bool true, .int .u64 v])[j * 3 + k]? = A[j * 3 + k]? := fun k hk => o _ (by omega)
          have q0 := q 0 (by omega)
          have q1 := q 1 (by omega)
          have q2 := q 2 (by omega)
          rw [Nat.add_zero] at q0
          rw [q0, q1, q2]
          exact HRR.out j hj
      have BT9 : Hid (But b2 w W9) := ⟨fun k hk hn => (z2 k hn).trans (HB.out.block k hk), by rw [z3]; exact HB.out.size, z4.os.trans HB.out.os, z4.tape.trans HB.out.tape, z4.output.trans HB.out.output⟩
      clear z1 z2 z3 z4
      go_wp2
      go_quiet (fail)
      go_wp2
      go_ret2
      exact ⟨by rw [HGG.out, HVV.out]; rfl, ⟨RD9.out.st, RD9.out.rd⟩, ⟨BT9.out.keep, BT9.out.size, BT9.out.os, BT9.out.tape, BT9.out.output⟩⟩
  · have c0 : w.cell? ⟨b2, f * 3, none⟩ = some (.bool true) := (cell_row hA _).trans r0
    have c1 : w.cell? ⟨b2, f * 3 + 1, none⟩ = some (.bool (hasF f cs)) := (cell_row hA _).trans r1
    have c2 : w.cell? ⟨b2, f * 3 + 2, none⟩ = some (.int .u64 (gv f cs)) := (cell_row hA _).trans r2
    clear h hA hs hr r0 r1 r2
    go_enter Tryz.func97, Tryz.ntmps97
    go_wp2
    go_quiet (fail)
    go_wp2
    go_ret2
    exact ⟨rfl, ⟨HR.out.st, HR.out.rd⟩, ⟨fun _ _ _ => rfl, Nat.le_refl _, rfl, rfl, rfl⟩⟩
end Go.Proofs.YtnahhmcmahbnkaaGreatDoor
/- Bytes appended in an array that has room for them. Conditions: as said. -/
namespace Go.Proofs.YtnahhmcmahbnkaaGreatDoor
open Go.RowKit
/-- An array of bytes whose first ones are these. -/
def RM (w : World) (b : Nat) (zs : List Int) : Prop := ∃ A, w.heap[b]? = some (.cells A 205 (0, 0)) ∧ A.size = 224 ∧ ∀ i, i < zs.length → A[i]? = some (.int .u8 (zs.getD i 0))
theorem RM.put {w : World} {b : Nat} {zs : List Int} (h : RM w b zs) (x : Int) (hl : zs.length < 224) : RM (w.setCell ⟨b, zs.length, none⟩ (.int .u8 x)) b (zs ++ [x]) := by
  obtain ⟨A, h1, h2, h3⟩ := h
  refine ⟨A.setIfInBounds zs.length (.int .u8 x), row_setCell h1 _ _, by simpa using h2, fun i hi => ?_⟩
  simp at hi
  by_cases he : i = zs.length
  · subst he
    rw [Array.getElem?_setIfInBounds_self_of_lt (by omega)]
    simp
  · rw [Array.getElem?_setIfInBounds_ne (by omega), h3 i (by omega)]
    simp [List.getElem?_append_left (show i < zs.length by omega)]
theorem RM.of {w w' : World} {b : Nat} {zs : List Int} (h : RM w b zs) (hb : Below w.heap.size w w') : RM w' b zs := by
  obtain ⟨A, h1, h2⟩ := h
  exact ⟨A, (hb.block _ (lt_of_heap h1)).trans h1, h2⟩
theorem RM.keep {w w' : World} {b c : Nat} {zs : List Int} (h : RM w b zs) (hb : But c w w') (hn : b ≠ c) : RM w' b zs := by
  obtain ⟨A, h1, h2⟩ := h
  exact ⟨A, (hb.keep _ (lt_of_heap h1) hn).trans h1, h2⟩
theorem RM.lt {w : World} {b : Nat} {zs : List Int} (h : RM w b zs) : b < w.heap.size := by obtain ⟨A, h1, _⟩ := h; exact lt_of_heap h1
theorem RM.bs {w : World} {b : Nat} {zs : List Int} (h : RM w b zs) (hf : ∀ x ∈ zs, 0 ≤ x ∧ x ≤ 255) (hr : zs.length ≤ 224) : Nm.BS w (some ⟨b, 0, none⟩) zs.length zs := by
  obtain ⟨A, h1, h2, h3⟩ := h
  exact ⟨rfl, bd_of_mem hf, by omega, .inr ⟨b, 0, rfl, fun i hi => by rw [Nat.zero_add, cell_row h1]; exact h3 i hi⟩⟩
theorem wpList_append_run9 {ops : Array Oper} {rest : List Oper} {op : Oper} {a : Act} {w w' : World} {Q : Exit → Act → World → Prop} (hgd : op.guard = none) (s x : Operand) (t : TypeId) (ho : op.op = .call { callee := .builtin .append, args := #[s, x], argTypes := #[t, t] })
    (sv xv : Value) (hs : a.eval s = sv) (hx : a.eval x = xv) (v : Value) (hr : (Builtin.append_ #[t, t] op.type #[sv, xv]).run Tryz.prog w = .ok v w') (h : wpList Tryz.prog ops Q rest (a.put op.dst v) w') : wpList Tryz.prog ops Q (op :: rest) a w := by
  refine wpList_plain hgd fun K hK => ?_
  unfold Oper.wp execOp
  simp only [ho, resolve, invoke, builtin, Sem.run_bind, Sem.run_pure, Result.andThen_ok, List.map_toArray, List.map_cons, List.map_nil, hs, hx, hr]
  exact hK _ _ h
theorem But.set {b : Nat} {w w' : World} (h : But b w w') (o : Nat) (v : Value) : But b w (w'.setCell ⟨b, o, none⟩ v) :=
  ⟨fun g hg hn => (Below.heap_setCell _ _ _ _ hn).trans (h.keep g hg hn), by simpa [World.setCell] using h.size, h.os, h.tape, h.output⟩
theorem But.alloc {b : Nat} {w w' : World} (h : But b w w') (o : Obj) : But b w (w'.alloc o) := h.trans (But.ofBelow (below1 w' o))
theorem But.drewN {b : Nat} {w w' : World} (h : But b w w') (n : Nat) : But b w (w'.drewN n) := ⟨h.keep, h.size, h.os, h.tape, h.output⟩
set_option maxRecDepth 20000 in
set_option maxHeartbeats 2000000 in
theorem octets_room {w : World} {b : Nat} {zs : List Int} (h : RM w b zs) (hl : zs.length + 8 ≤ 224) (v : Int) (_hv : 0 ≤ v ∧ v ≤ 18446744073709551615) :
    Calls Tryz.prog 153 #[.slice (some ⟨b, 0, none⟩) zs.length 224, .int .u64 v, .int .i64 8] w fun e w' => e = .returned (.slice (some ⟨b, 0, none⟩) (zs.length + 8) 224) ∧ RM w' b (zs ++ Nm.be v 8) ∧ But b w w' := by
  obtain ⟨i0, hi, hz0, hz1, hz2⟩ := info_parts Nm.info5
  have HR : Hid _ := h
  clear h
  go_enter Tryz.func153, Tryz.ntmps153
  go_wp2
  go_loopw [0, 2] (fun o r wr => ∃ (k : Nat) (ys : List Int), r = .int .i64 k ∧ k ≤ 8 ∧ ys.length + k = zs.length + 8 ∧ o = .slice (some ⟨b, 0, none⟩) ys.length 224 ∧ Hid (ys ++ Nm.be v k = zs ++ Nm.be v 8) ∧ Hid (RM wr b ys) ∧ Hid (But b w wr)) (fun _ r _ => (intOf r).toNat)
  case atStart => exact ⟨8, zs, rfl, by omega, rfl, rfl, rfl, HR.out, But.refl _ _⟩
  case round =>
    obtain ⟨k, ys, rfl, hk8, hlen, rfl, hys, hrm, hbt⟩ := hrel
    by_cases hk : k = 0
    · subst hk
      have e9 : ys = zs ++ Nm.be v 8 := by have := hys.out; simpa [Nm.be] using this
      have RR : Hid (RM wr b (zs ++ Nm.be v 8)) := by rw [← e9]; exact hrm.out
      have hlen2 : ys.length = zs.length + 8 := by omega
      rw [hlen2]
      clear hys hrm e9 hlen hlen2
      go_wp2
      go_ret
      exact ⟨rfl, RR.out, hbt.out⟩
    · obtain ⟨r, rfl⟩ : ∃ r, k = r + 1 := ⟨k - 1, by omega⟩
      have hr : (r : Int) ≤ 7 := by omega
      obtain ⟨x, hx⟩ : ∃ x, v / 2 ^ (8 * r) % 256 = x := ⟨_, rfl⟩
      have RA : Hid (RM (wr.alloc (.cells #[.int .u8 x] 5)) b ys) := hrm.out.of (below1 wr _)
      have hap : (Builtin.append_ #[126, 126] 126 #[.slice (some ⟨b, 0, none⟩) ys.length 224, .slice (some ⟨wr.heap.size, 0, none⟩) 1 1]).run Tryz.prog (wr.alloc (.cells #[.int .u8 x] 5)) = .ok (.slice (some ⟨b, 0, none⟩) (ys.length + 1) 224) ((wr.alloc (.cells #[.int .u8 x] 5)).setCell ⟨b, ys.length, none⟩ (.int .u8 x)) := by
        obtain ⟨A, h1, h2, h3⟩ := RA.out
        have := run_append_room_cells (P := Tryz.prog) (wr.alloc (.cells #[.int .u8 x] 5)) 126 126 5 i0 Tryz.underlying126 hi b 0 ys.length 224 ⟨wr.heap.size, 0, none⟩ 1 1 [.int .u8 x] (by rw [hz1]; rfl) (fun j u hj => by
          have hj0 : j = 0 := by
            have := (List.getElem?_eq_some_iff.1 hj).1
            simpa using this
          subst hj0
          simp at hj
          subst hj
          exact cell_row (heap_alloc_new wr (.cells #[.int .u8 x] 5)) 0) (fun u hu => by simp at hu; subst hu; rfl) (by omega)
          (fun j hj => by
            simp at hj
            subst hj
            rw [hz1, cell_row h1, Array.getElem?_eq_getElem (by omega)]; rfl)
          (fun j hj => frozen_of_row _ b _ A _ h1)
        rw [hz1] at this
        simpa [World.setCells] using this
      have HAP : Hid _ := hap
      have RN : Hid (RM ((wr.alloc (.cells #[.int .u8 x] 5)).setCell ⟨b, ys.length, none⟩ (.int .u8 x)) b (ys ++ [x])) := RA.out.put x (by omega)
      have BN : Hid (But b w ((wr.alloc (.cells #[.int .u8 x] 5)).setCell ⟨b, ys.length, none⟩ (.int .u8 x))) := (hbt.out.alloc _).set _ _
      have YN : Hid ((ys ++ [x]) ++ Nm.be v r = zs ++ Nm.be v 8) := by show _ = _; rw [← hys.out, ← hx]; simp [Nm.be]
      clear hap RA
      subst hx
      go_wp2_with (at_builtin; refine wpList_append_run9 rfl (.tmp 11) (.tmp 17) 126 rfl (.slice (some ⟨b, 0, none⟩) ys.length 224) (.slice (some ⟨wr.heap.size, 0, none⟩) 1 1) rfl rfl (.slice (some ⟨b, 0, none⟩) (ys.length + 1) 224) HAP.out ?_)
      go_wp2
      go_roundw
      case rel => exact ⟨r, ys ++ [v / 2 ^ (8 * r) % 256], rfl, by omega, by simp; omega, by simp, YN, RN, BN⟩
      case measure => simp [intOf]
end Go.Proofs.YtnahhmcmahbnkaaGreatDoor
