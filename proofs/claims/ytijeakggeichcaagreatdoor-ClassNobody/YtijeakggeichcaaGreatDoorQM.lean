/- Bytes appended in an array that has room for them. Conditions: as said. -/
import Derived.Test.YtijeakggeichcaaGreatDoorQL
import Derived.ArgAppend
import Derived.Lib.Hide
namespace Go.Proofs.YtijeakggeichcaaGreatDoor
open Go.RowKit
/-- An array of bytes whose first ones are these. -/
def RM (w : World) (b : Nat) (zs : List Int) : Prop := ∃ A, w.heap[b]? = some (.cells A 111 (0, 0)) ∧ A.size = 224 ∧ ∀ i, i < zs.length → A[i]? = some (.int .u8 (zs.getD i 0))
theorem RM.put {w : World} {b : Nat} {zs : List Int} (h : RM w b zs) (x : Int) (hl : zs.length < 224) : RM (w.setCell ⟨b, zs.length, none⟩ (.int .u8 x)) b (zs ++ [x]) := by
  obtain ⟨A, h1, h2, h3⟩ := h
  refine ⟨A.setIfInBounds zs.length (.int .u8 x), row_setCell h1 _ _, by simpa using h2, fun i hi => ?_⟩
  simp at hi
  by_cases he : i = zs.length
  · subst he
    rw [Array.getElem?_setIfInBounds_self_of_lt (by omega)]
    simp
  · rw [Array.getElem?_setIfInBounds_ne (by omega), h3 i (by omega)]
    simp [List.getElem?_append_left (show i < zs.length by omega)]
theorem RM.of {w w' : World} {b : Nat} {zs : List Int} (h : RM w b zs) (hb : Below w.heap.size w w') : RM w' b zs := by
  obtain ⟨A, h1, h2⟩ := h
  exact ⟨A, (hb.block _ (lt_of_heap h1)).trans h1, h2⟩
theorem RM.keep {w w' : World} {b c : Nat} {zs : List Int} (h : RM w b zs) (hb : But c w w') (hn : b ≠ c) : RM w' b zs := by
  obtain ⟨A, h1, h2⟩ := h
  exact ⟨A, (hb.keep _ (lt_of_heap h1) hn).trans h1, h2⟩
theorem RM.lt {w : World} {b : Nat} {zs : List Int} (h : RM w b zs) : b < w.heap.size := by obtain ⟨A, h1, _⟩ := h; exact lt_of_heap h1
theorem RM.bs {w : World} {b : Nat} {zs : List Int} (h : RM w b zs) (hf : ∀ x ∈ zs, 0 ≤ x ∧ x ≤ 255) (hr : zs.length ≤ 224) : Nm.BS w (some ⟨b, 0, none⟩) zs.length zs := by
  obtain ⟨A, h1, h2, h3⟩ := h
  exact ⟨rfl, bd_of_mem hf, by omega, .inr ⟨b, 0, rfl, fun i hi => by rw [Nat.zero_add, cell_row h1]; exact h3 i hi⟩⟩
theorem wpList_append_run9 {ops : Array Oper} {rest : List Oper} {op : Oper} {a : Act} {w w' : World} {Q : Exit → Act → World → Prop} (hgd : op.guard = none) (s x : Operand) (t : TypeId) (ho : op.op = .call { callee := .builtin .append, args := #[s, x], argTypes := #[t, t] })
    (sv xv : Value) (hs : a.eval s = sv) (hx : a.eval x = xv) (v : Value) (hr : (Builtin.append_ #[t, t] op.type #[sv, xv]).run Tryz.prog w = .ok v w') (h : wpList Tryz.prog ops Q rest (a.put op.dst v) w') : wpList Tryz.prog ops Q (op :: rest) a w := by
  refine wpList_plain hgd fun K hK => ?_
  unfold Oper.wp execOp
  simp only [ho, resolve, invoke, builtin, Sem.run_bind, Sem.run_pure, Result.andThen_ok, List.map_toArray, List.map_cons, List.map_nil, hs, hx, hr]
  exact hK _ _ h
theorem But.set {b : Nat} {w w' : World} (h : But b w w') (o : Nat) (v : Value) : But b w (w'.setCell ⟨b, o, none⟩ v) :=
  ⟨fun g hg hn => (Below.heap_setCell _ _ _ _ hn).trans (h.keep g hg hn), by simpa [World.setCell] using h.size, h.os, h.tape, h.output⟩
theorem But.alloc {b : Nat} {w w' : World} (h : But b w w') (o : Obj) : But b w (w'.alloc o) := h.trans (But.ofBelow (below1 w' o))
theorem But.drewN {b : Nat} {w w' : World} (h : But b w w') (n : Nat) : But b w (w'.drewN n) := ⟨h.keep, h.size, h.os, h.tape, h.output⟩
set_option maxRecDepth 20000 in
set_option maxHeartbeats 2000000 in
theorem octets_room {w : World} {b : Nat} {zs : List Int} (h : RM w b zs) (hl : zs.length + 8 ≤ 224) (v : Int) (_hv : 0 ≤ v ∧ v ≤ 18446744073709551615) :
    Calls Tryz.prog 69 #[.slice (some ⟨b, 0, none⟩) zs.length 224, .int .u64 v, .int .i64 8] w fun e w' => e = .returned (.slice (some ⟨b, 0, none⟩) (zs.length + 8) 224) ∧ RM w' b (zs ++ Nm.be v 8) ∧ But b w w' := by
  obtain ⟨i0, hi, hz0, hz1, hz2⟩ := info_parts Nm.info5
  have HR : Hid _ := h
  clear h
  go_enter Tryz.func69, Tryz.ntmps69
  go_wp2
  go_loopw [0, 2] (fun o r wr => ∃ (k : Nat) (ys : List Int), r = .int .i64 k ∧ k ≤ 8 ∧ ys.length + k = zs.length + 8 ∧ o = .slice (some ⟨b, 0, none⟩) ys.length 224 ∧ Hid (ys ++ Nm.be v k = zs ++ Nm.be v 8) ∧ Hid (RM wr b ys) ∧ Hid (But b w wr)) (fun _ r _ => (intOf r).toNat)
  case atStart => exact ⟨8, zs, rfl, by omega, rfl, rfl, rfl, HR.out, But.refl _ _⟩
  case round =>
    obtain ⟨k, ys, rfl, hk8, hlen, rfl, hys, hrm, hbt⟩ := hrel
    by_cases hk : k = 0
    · subst hk
      have e9 : ys = zs ++ Nm.be v 8 := by have := hys.out; simpa [Nm.be] using this
      have RR : Hid (RM wr b (zs ++ Nm.be v 8)) := by rw [← e9]; exact hrm.out
      have hlen2 : ys.length = zs.length + 8 := by omega
      rw [hlen2]
      clear hys hrm e9 hlen hlen2
      go_wp2
      go_ret
      exact ⟨rfl, RR.out, hbt.out⟩
    · obtain ⟨r, rfl⟩ : ∃ r, k = r + 1 := ⟨k - 1, by omega⟩
      have hr : (r : Int) ≤ 7 := by omega
      obtain ⟨x, hx⟩ : ∃ x, v / 2 ^ (8 * r) % 256 = x := ⟨_, rfl⟩
      have RA : Hid (RM (wr.alloc (.cells #[.int .u8 x] 5)) b ys) := hrm.out.of (below1 wr _)
      have hap : (Builtin.append_ #[112, 112] 112 #[.slice (some ⟨b, 0, none⟩) ys.length 224, .slice (some ⟨wr.heap.size, 0, none⟩) 1 1]).run Tryz.prog (wr.alloc (.cells #[.int .u8 x] 5)) = .ok (.slice (some ⟨b, 0, none⟩) (ys.length + 1) 224) ((wr.alloc (.cells #[.int .u8 x] 5)).setCell ⟨b, ys.length, none⟩ (.int .u8 x)) := by
        obtain ⟨A, h1, h2, h3⟩ := RA.out
        have := run_append_room_cells (P := Tryz.prog) (wr.alloc (.cells #[.int .u8 x] 5)) 112 112 5 i0 Tryz.underlying112 hi b 0 ys.length 224 ⟨wr.heap.size, 0, none⟩ 1 1 [.int .u8 x] (by rw [hz1]; rfl) (fun j u hj => by
          have hj0 : j = 0 := by
            have := (List.getElem?_eq_some_iff.1 hj).1
            simpa using this
          subst hj0
          simp at hj
          subst hj
          exact cell_row (heap_alloc_new wr (.cells #[.int .u8 x] 5)) 0) (fun u hu => by simp at hu; subst hu; rfl) (by omega)
          (fun j hj => by
            simp at hj
            subst hj
            rw [hz1, cell_row h1, Array.getElem?_eq_getElem (by omega)]; rfl)
          (fun j hj => frozen_of_row _ b _ A _ h1)
        rw [hz1] at this
        simpa [World.setCells] using this
      have HAP : Hid _ := hap
      have RN : Hid (RM ((wr.alloc (.cells #[.int .u8 x] 5)).setCell ⟨b, ys.length, none⟩ (.int .u8 x)) b (ys ++ [x])) := RA.out.put x (by omega)
      have BN : Hid (But b w ((wr.alloc (.cells #[.int .u8 x] 5)).setCell ⟨b, ys.length, none⟩ (.int .u8 x))) := (hbt.out.alloc _).set _ _
      have YN : Hid ((ys ++ [x]) ++ Nm.be v r = zs ++ Nm.be v 8) := by show _ = _; rw [← hys.out, ← hx]; simp [Nm.be]
      clear hap RA
      subst hx
      go_wp2_with (at_builtin; refine wpList_append_run9 rfl (.tmp 11) (.tmp 17) 112 rfl (.slice (some ⟨b, 0, none⟩) ys.length 224) (.slice (some ⟨wr.heap.size, 0, none⟩) 1 1) rfl rfl (.slice (some ⟨b, 0, none⟩) (ys.length + 1) 224) HAP.out ?_)
      go_wp2
      go_roundw
      case rel => exact ⟨r, ys ++ [v / 2 ^ (8 * r) % 256], rfl, by omega, by simp; omega, by simp, YN, RN, BN⟩
      case measure => simp [intOf]
end Go.Proofs.YtijeakggeichcaaGreatDoor
