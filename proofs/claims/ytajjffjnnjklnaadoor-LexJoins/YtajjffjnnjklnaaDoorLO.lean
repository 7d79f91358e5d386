/- The longest token at a text's beginning (lex.longest). Conditions: the text is not empty, of at most 4096 bytes; the library's two errors lie where the program's text lays them. -/
import Derived.Test.YtajjffjnnjklnaaDoorLN
namespace Go.Proofs.YtajjffjnnjklnaaDoor
open Go.Shelf Go.RowKit
def tkName (s : ByteArray) : Tk × Nat := if digB (byt s 0) || byt s 0 == 46 then (tz, 0) else (⟨1, s.extract 0 (runS s nameB), 0, 0⟩, runS s nameB)
def fin3 (s : ByteArray) (o : Option Int) : Tk × Nat := match o with | some m => (⟨3, s.extract 0 (min s.size 17), m, 0⟩, 17) | none => (tz, 0)
def tkMac (s : ByteArray) : Tk × Nat := fin3 s (macSpec (s.extract 0 (min s.size 17)))
def fin4 (s : ByteArray) (o : Option (Nat × Int)) : Tk × Nat := match o with | some r => (⟨4, s.extract 0 r.1, r.2, 0⟩, r.1) | none => (tz, 0)
def tkAddr (s : ByteArray) : Tk × Nat := fin4 s (adFrom s (min s.size 15))
def tkOp (s : ByteArray) : Tk × Nat := if 2 ≤ s.size ∧ opB (s.extract 0 2) = true then (⟨5, s.extract 0 2, 0, 0⟩, 2) else if 1 ≤ s.size ∧ opB (s.extract 0 1) = true then (⟨5, s.extract 0 1, 0, 0⟩, 1) else (⟨5, ⟨#[]⟩, 0, 0⟩, 0)
def tkText (s : ByteArray) : Tk × Nat :=
  if byt s 0 = 34 ∧ (runS (s.extract 1 s.size) textB ≤ 64 ∧ 1 + runS (s.extract 1 s.size) textB < s.size ∧ byt s (1 + runS (s.extract 1 s.size) textB) = 34) then (⟨6, s.extract 1 (1 + runS (s.extract 1 s.size) textB), 0, 0⟩, 1 + runS (s.extract 1 s.size) textB + 1) else (tz, 0)
theorem rdName_eq (s : ByteArray) : rdName s = ((tkName s).1.c, ((tkName s).2 : Int)) := by unfold rdName tkName; split <;> rfl
theorem rdMac_eq (s : ByteArray) : rdMac s = ((tkMac s).1.c, ((tkMac s).2 : Int)) := by unfold rdMac tkMac; cases macSpec (s.extract 0 (min s.size 17)) <;> rfl
theorem rdAddr_eq (s : ByteArray) : rdAddr s = ((tkAddr s).1.c, ((tkAddr s).2 : Int)) := by unfold rdAddr tkAddr; cases adFrom s (min s.size 15) <;> rfl
theorem rdOp_eq (s : ByteArray) : rdOp s = ((tkOp s).1.c, ((tkOp s).2 : Int)) := by unfold rdOp tkOp; split; rfl; split <;> rfl
theorem rdText_eq (s : ByteArray) : rdText s = ((tkText s).1.c, ((tkText s).2 : Int)) := by unfold rdText tkText; split <;> rfl
/-- The later of two, where it is as long. -/
def best (a b : Tk × Nat) : Tk × Nat := if 0 < b.2 ∧ a.2 ≤ b.2 then b else a
def readers (s : ByteArray) : List (Tk × Nat) := [tkName s, tkNum s, tkMac s, tkAddr s, tkOp s, tkText s]
def bestK (s : ByteArray) (k : Nat) : Tk × Nat := ((readers s).take k).foldl best (tz, 0)
/-- The longest token. -/
def longS (s : ByteArray) : Tk × Nat := bestK s 6
theorem clone_any (s : ByteArray) (hs : s.size ≤ 281474976710656) (w : World) : Calls Tryd.prog 25 #[.string s] w fun e w' => e = .returned (.string s) ∧ Below w.heap.size w w' := by
  have h := AnyPu.stringslite_Clone (ρ := Tryd.laysPu14_ren) { Tryd.laysPu14 with } s w hs
  go_enter Tryd.func25, Tryd.ntmps25
  go_wp2_with fail
  refine (show Calls Tryd.prog _ _ _ _ from h).mono ?_
  rintro e w' ⟨rfl, hb⟩
  go_wp2
  go_ret
  exact ⟨rfl, hb⟩
/-- A reader's answer. -/
def RdC (f : Nat) (s : ByteArray) (r : Tk × Nat) : Prop := ∀ W, Errs W → Calls Tryd.prog f #[.string s] W fun e w' => e = .returned (.tuple #[.agg #[.int .i64 r.1.k, .string r.1.t, .int .u64 r.1.n, .int .i64 r.1.a], .int .i64 (r.2 : Nat)]) ∧ Below W.heap.size W w'
theorem best_len {a b : Tk × Nat} {s : ByteArray} (ha : a.1.t.size ≤ s.size) (hb : b.1.t.size ≤ s.size) : (best a b).1.t.size ≤ s.size := by
  unfold best; split <;> assumption
theorem rdC_0 (s : ByteArray) (hs : s.size ≤ 4096) (h0 : 0 < s.size) : RdC 19 s (tkName s) := by
  intro W E
  have h := readName_any s (by unfold maxLen; omega) h0 W
  rw [rdName_eq s] at h
  exact h
theorem rdC_1 (s : ByteArray) (hs : s.size ≤ 4096) (h0 : 0 < s.size) : RdC 20 s (tkNum s) := by
  intro W E
  have h := readNumber_any s (by omega) h0 W E
  exact h
theorem rdC_2 (s : ByteArray) (hs : s.size ≤ 4096) (h0 : 0 < s.size) : RdC 21 s (tkMac s) := by
  intro W E
  have h := readMac_any s (by unfold maxLen; omega) W
  rw [rdMac_eq s] at h
  exact h
theorem rdC_3 (s : ByteArray) (hs : s.size ≤ 4096) (h0 : 0 < s.size) : RdC 22 s (tkAddr s) := by
  intro W E
  have h := readAddr_any s (by unfold maxLen; omega) W
  rw [rdAddr_eq s] at h
  exact h
theorem rdC_4 (s : ByteArray) (hs : s.size ≤ 4096) (h0 : 0 < s.size) : RdC 23 s (tkOp s) := by
  intro W E
  have h := readOp_any s (by unfold maxLen; omega) h0 W
  rw [rdOp_eq s] at h
  exact h
theorem rdC_5 (s : ByteArray) (hs : s.size ≤ 4096) (h0 : 0 < s.size) : RdC 24 s (tkText s) := by
  intro W E
  have h := readText_any s (by unfold maxLen; omega) h0 W
  rw [rdText_eq s] at h
  exact h
theorem ix0 : ∀ W, (Instr.index 44 (.agg #[.func (Fn.func 19) #[] #[], .func (Fn.func 20) #[] #[], .func (Fn.func 21) #[] #[], .func (Fn.func 22) #[] #[], .func (Fn.func 23) #[] #[], .func (Fn.func 24) #[] #[]]) (.int .i64 0)).run Tryd.prog W = .ok (.func (Fn.func 19) #[] #[]) W := by
  intro W
  simp [Instr.index, run_underlying Tryd.underlying44, go_sem]
theorem ix1 : ∀ W, (Instr.index 44 (.agg #[.func (Fn.func 19) #[] #[], .func (Fn.func 20) #[] #[], .func (Fn.func 21) #[] #[], .func (Fn.func 22) #[] #[], .func (Fn.func 23) #[] #[], .func (Fn.func 24) #[] #[]]) (.int .i64 1)).run Tryd.prog W = .ok (.func (Fn.func 20) #[] #[]) W := by
  intro W
  simp [Instr.index, run_underlying Tryd.underlying44, go_sem]
theorem ix2 : ∀ W, (Instr.index 44 (.agg #[.func (Fn.func 19) #[] #[], .func (Fn.func 20) #[] #[], .func (Fn.func 21) #[] #[], .func (Fn.func 22) #[] #[], .func (Fn.func 23) #[] #[], .func (Fn.func 24) #[] #[]]) (.int .i64 2)).run Tryd.prog W = .ok (.func (Fn.func 21) #[] #[]) W := by
  intro W
  simp [Instr.index, run_underlying Tryd.underlying44, go_sem]
theorem ix3 : ∀ W, (Instr.index 44 (.agg #[.func (Fn.func 19) #[] #[], .func (Fn.func 20) #[] #[], .func (Fn.func 21) #[] #[], .func (Fn.func 22) #[] #[], .func (Fn.func 23) #[] #[], .func (Fn.func 24) #[] #[]]) (.int .i64 3)).run Tryd.prog W = .ok (.func (Fn.func 22) #[] #[]) W := by
  intro W
  simp [Instr.index, run_underlying Tryd.underlying44, go_sem]
theorem ix4 : ∀ W, (Instr.index 44 (.agg #[.func (Fn.func 19) #[] #[], .func (Fn.func 20) #[] #[], .func (Fn.func 21) #[] #[], .func (Fn.func 22) #[] #[], .func (Fn.func 23) #[] #[], .func (Fn.func 24) #[] #[]]) (.int .i64 4)).run Tryd.prog W = .ok (.func (Fn.func 23) #[] #[]) W := by
  intro W
  simp [Instr.index, run_underlying Tryd.underlying44, go_sem]
theorem ix5 : ∀ W, (Instr.index 44 (.agg #[.func (Fn.func 19) #[] #[], .func (Fn.func 20) #[] #[], .func (Fn.func 21) #[] #[], .func (Fn.func 22) #[] #[], .func (Fn.func 23) #[] #[], .func (Fn.func 24) #[] #[]]) (.int .i64 5)).run Tryd.prog W = .ok (.func (Fn.func 24) #[] #[]) W := by
  intro W
  simp [Instr.index, run_underlying Tryd.underlying44, go_sem]
theorem heap_alloc_old9 (w : World) (o : Obj) (k : Nat) (h : k < w.heap.size) : (w.alloc o).heap[k]? = w.heap[k]? := by
  unfold World.alloc; rw [Array.getElem?_push, if_neg (by omega)]
theorem set4_other (W : World) (g k : Nat) (v0 v1 v2 v3 : Value) (h : k ≠ g) : ((((W.setCell ⟨g, 0, none⟩ v0).setCell ⟨g, 1, none⟩ v1).setCell ⟨g, 2, none⟩ v2).setCell ⟨g, 3, none⟩ v3).heap[k]? = W.heap[k]? := by
  have q : ∀ (W : World) o v, (W.setCell ⟨g, o, none⟩ v).heap[k]? = W.heap[k]? := fun W o v => by
    simp [World.setCell, Array.getElem?_modify, Ne.symm h]
  rw [q, q, q, q]
theorem set4_below2 (W : World) (g b : Nat) (v0 v1 v2 v3 : Value) (h : b ≤ g) : Below b W ((((W.setCell ⟨g, 0, none⟩ v0).setCell ⟨g, 1, none⟩ v1).setCell ⟨g, 2, none⟩ v2).setCell ⟨g, 3, none⟩ v3) := (set4_below W g v0 v1 v2 v3).mono h
theorem set4_size (W : World) (g : Nat) (v0 v1 v2 v3 : Value) : ((((W.setCell ⟨g, 0, none⟩ v0).setCell ⟨g, 1, none⟩ v1).setCell ⟨g, 2, none⟩ v2).setCell ⟨g, 3, none⟩ v3).heap.size = W.heap.size := by
  simp [World.setCell]
theorem set4_al {W : World} {g : Nat} {x0 x1 x2 x3 : Value} {t : TypeId} (h : W.heap[g]? = some (.cells #[x0, x1, x2, x3] t (0, 0))) {v0 v1 v2 v3 : Value} (o : Obj) : (((((W.setCell ⟨g, 0, none⟩ v0).setCell ⟨g, 1, none⟩ v1).setCell ⟨g, 2, none⟩ v2).setCell ⟨g, 3, none⟩ v3).alloc o).heap[g]? = some (.cells #[v0, v1, v2, v3] t (0, 0)) := by
  rw [heap_alloc_old9 _ _ _ (by rw [set4_size]; exact (Array.getElem?_eq_some_iff.1 h).1)]
  exact set4 h
theorem set4_al_other (W : World) (g k : Nat) (v0 v1 v2 v3 : Value) (o : Obj) (h : k ≠ g) (hk : k < W.heap.size) : (((((W.setCell ⟨g, 0, none⟩ v0).setCell ⟨g, 1, none⟩ v1).setCell ⟨g, 2, none⟩ v2).setCell ⟨g, 3, none⟩ v3).alloc o).heap[k]? = W.heap[k]? := by
  rw [heap_alloc_old9 _ _ _ (by rw [set4_size]; exact hk)]
  exact set4_other _ _ _ _ _ _ _ h
theorem set4_al_below (W : World) (g b : Nat) (v0 v1 v2 v3 : Value) (o : Obj) (h : b ≤ g) (hb : b ≤ W.heap.size) : Below b W (((((W.setCell ⟨g, 0, none⟩ v0).setCell ⟨g, 1, none⟩ v1).setCell ⟨g, 2, none⟩ v2).setCell ⟨g, 3, none⟩ v3).alloc o) :=
  (set4_below2 W g b v0 v1 v2 v3 h).alloc (by rw [set4_size]; exact hb) o
set_option maxRecDepth 20000 in
set_option maxHeartbeats 80000000 in
theorem longest_any (s : ByteArray) (hs : s.size ≤ 4096) (h0 : 0 < s.size) (hz : (longS s).1.t.size ≤ 281474976710656) (w : World) (E : Errs w) :
    Calls Tryd.prog 15 #[.string s] w fun e w' => e = .returned (.tuple #[.agg #[.int .i64 (longS s).1.k, .string (longS s).1.t, .int .u64 (longS s).1.n, .int .i64 (longS s).1.a], .int .i64 ((longS s).2 : Nat)]) ∧ Below w.heap.size w w' := by
  have HE : Hid (Errs w) := E
  have HS : Hid (0 < s.size ∧ s.size ≤ 4096) := ⟨h0, hs⟩
  have HZ : Hid _ := hz
  clear E h0 hs hz
  obtain ⟨⟨⟨lk, lt, ln, la⟩, lm⟩, hL⟩ : ∃ f, longS s = f := ⟨_, rfl⟩
  rw [hL] at HZ ⊢
  have HL := Lib.hid hL
  clear hL
  go_enter Tryd.func15, Tryd.ntmps15
  go_wp2_with fail
  go_loopw [5, 11] (fun m i wr => ∃ k : Nat, k ≤ 6 ∧ i = .int .i64 k ∧ m = .int .i64 ((bestK s k).2 : Nat) ∧ Hid (wr.heap[w.heap.size + 1]? = some (.cells (bestK s k).1.c 32 (0, 0))) ∧ Hid (wr.heap[w.heap.size]? = some (.cells #[.int .i64 0, .string ⟨#[]⟩, .int .u64 0, .int .i64 0] 32 (0, 0))) ∧ Hid (Below w.heap.size w wr)) (fun _ i _ => 6 - (intOf i).toNat)
  case atStart => exact ⟨0, by omega, rfl, rfl, Lib.hid (by rw [show w.heap.size + 1 = (w.alloc (.cells #[.int .i64 0, .string ⟨#[]⟩, .int .u64 0, .int .i64 0] 32)).heap.size by simp]; exact heap_alloc_new _ _), Lib.hid (by rw [heap_alloc_old9 _ _ _ (by simp)]; exact heap_alloc_new _ _), Lib.hid (((Below.refl _ _).alloc (Nat.le_refl _) _).alloc (by simp) _)⟩
  case round =>
    obtain ⟨k, hk, rfl, rfl, hg1, hg0, HB⟩ := hrel
    have EW := Lib.hid (HE.out.below HB.out)
    have hsz : w.heap.size + 1 < wr.heap.size := (Array.getElem?_eq_some_iff.1 hg1.out).1
    obtain ⟨⟨⟨fk, ft, fn, fa⟩, fm⟩, hf⟩ : ∃ f, bestK s k = f := ⟨_, rfl⟩
    rw [hf] at hg1
    rw [hf]
    have HF : Hid _ := Lib.hid hf
    clear hf
    by_cases h6 : k = 6
    · subst h6
      have hE : ((⟨fk, ft, fn, fa⟩, fm) : Tk × Nat) = (⟨lk, lt, ln, la⟩, lm) := HF.out.symm.trans HL.out
      injection hE with hE1 hE2
      injection hE1 with hE3 hE4 hE5 hE6
      subst hE2 hE3 hE4 hE5 hE6
      obtain ⟨q0, q1, q2, q3, r0, r1, r2, r3⟩ := cells4 hg1.out
      have HC := Lib.hid (fun W => clone_any ft HZ.out W)
      clear HF HL
      go_wp2_with fail
      refine (HC.out _).mono ?_
      rintro e W ⟨rfl, hb⟩
      clear q0 q1 q2 q3 r0 r1 r2 r3 HC
      have HG1 := Lib.hid ((hb.block _ hsz).trans hg1.out)
      have HG0 := Lib.hid ((hb.block _ (by omega)).trans hg0.out)
      obtain ⟨q0, q1, q2, q3, r0, r1, r2, r3⟩ := cells4 HG1.out
      obtain ⟨q4, q5, q6, q7, r4, r5, r6, r7⟩ := cells4 HG0.out
      have HB8 := Lib.hid (HB.out.trans (hb.mono HB.out.size))
      clear hb hg1 hg0 HB EW
      go_wp2
      have hx : (W.setCell ⟨w.heap.size + 1, 1, none⟩ (.string ft)).heap[w.heap.size]? = some (.cells #[.int .i64 0, .string ⟨#[]⟩, .int .u64 0, .int .i64 0] 32 (0, 0)) := by
        rw [show (W.setCell ⟨w.heap.size + 1, 1, none⟩ (.string ft)).heap[w.heap.size]? = W.heap[w.heap.size]? by simp [World.setCell, Array.getElem?_modify]]
        exact HG0.out
      refine bodyPost_ret (results_tok (p := 2) (u := 3) rfl _ _ w.heap.size _ rfl (set4 hx) rfl) rfl ⟨rfl, (HB8.out.trans ((Below.refl w.heap.size W).setCell (p := ⟨w.heap.size + 1, 1, none⟩ ) (Nat.le_succ _) _)).trans (set4_below _ _ _ _ _ _)⟩
    by_cases h9 : k = 0
    · subst h9
      clear h6 hk
      have HK : Hid (bestK s 1 = best (bestK s 0) (tkName s)) := rfl
      have HC : Hid (RdC 19 s (tkName s)) := rdC_0 s HS.out.2 HS.out.1
      obtain ⟨⟨⟨xk, xt, xn, xa⟩, xm⟩, hx⟩ : ∃ x, tkName s = x := ⟨_, rfl⟩
      rw [hx] at HC HK
      rw [HF.out] at HK
      clear hx HF
      by_cases hp : 0 < xm
      · by_cases hle : fm ≤ xm
        · have hpI : (0 : Int) < (xm : Int) := by omega
          have hleI : (fm : Int) ≤ (xm : Int) := by omega
          have HN : Hid (bestK s 1 = (⟨xk, xt, xn, xa⟩, xm)) := by show _ = _; rw [HK.out]; unfold best; rw [if_pos ⟨hp, hle⟩]
          clear HK
          have hix := ix0
          go_wp2_with fail
          clear hix
          refine (HC.out _ EW.out).mono ?_
          rintro e W ⟨rfl, hb⟩
          have hG1 := (hb.block _ hsz).trans hg1.out
          have hG0 := (hb.block _ (by omega)).trans hg0.out
          have hszW : w.heap.size + 1 < W.heap.size := Nat.lt_of_lt_of_le hsz hb.size
          have hneW : ¬ w.heap.size + 1 = W.heap.size := by omega
          have hA1 : Hid ((W.alloc (.cells #[.int .i64 xk, .string xt, .int .u64 xn, .int .i64 xa] 32)).heap[w.heap.size + 1]? = some (.cells #[.int .i64 fk, .string ft, .int .u64 fn, .int .i64 fa] 32 (0, 0))) := by show _ = _; rw [heap_alloc_old9 _ _ _ hszW]; exact hG1
          have hA0 : Hid ((W.alloc (.cells #[.int .i64 xk, .string xt, .int .u64 xn, .int .i64 xa] 32)).heap[w.heap.size]? = some (.cells #[.int .i64 0, .string ⟨#[]⟩, .int .u64 0, .int .i64 0] 32 (0, 0))) := by show _ = _; rw [heap_alloc_old9 _ _ _ (by omega)]; exact hG0
          obtain ⟨q0, q1, q2, q3, r0, r1, r2, r3⟩ := cells4 hG1
          have HB9 : Hid (Below w.heap.size w (W.alloc (.cells #[.int .i64 xk, .string xt, .int .u64 xn, .int .i64 xa] 32))) := Lib.hid ((HB.out.trans (hb.mono HB.out.size)).alloc (by omega) _)
          have HG1 := Lib.hid hG1
          have HG0 := Lib.hid hG0
          have HB8 := Lib.hid (HB.out.trans (hb.mono HB.out.size))
          clear hG1 hG0 hb hg1 hg0 HB EW HC
          go_wp2
          go_roundw
          case rel => exact ⟨1, by omega, by first | rfl | go_num, by rw [HN.out], by rw [HN.out]; exact set4_al HG1.out _, (set4_al_other _ _ _ _ _ _ _ _ (by omega) (by omega)).trans HG0.out, HB8.out.trans (set4_al_below _ _ _ _ _ _ _ _ (by omega) (by omega))⟩
          case measure => simp [intOf]
        · have hpI : (0 : Int) < (xm : Int) := by omega
          have hleI : ¬ (fm : Int) ≤ (xm : Int) := by omega
          have HN : Hid (bestK s 1 = (⟨fk, ft, fn, fa⟩, fm)) := by show _ = _; rw [HK.out]; unfold best; rw [if_neg (fun q => hle q.2)]
          clear HK
          have hix := ix0
          go_wp2_with fail
          clear hix
          refine (HC.out _ EW.out).mono ?_
          rintro e W ⟨rfl, hb⟩
          have hG1 := (hb.block _ hsz).trans hg1.out
          have hG0 := (hb.block _ (by omega)).trans hg0.out
          have hszW : w.heap.size + 1 < W.heap.size := Nat.lt_of_lt_of_le hsz hb.size
          have hneW : ¬ w.heap.size + 1 = W.heap.size := by omega
          have hA1 : Hid ((W.alloc (.cells #[.int .i64 xk, .string xt, .int .u64 xn, .int .i64 xa] 32)).heap[w.heap.size + 1]? = some (.cells #[.int .i64 fk, .string ft, .int .u64 fn, .int .i64 fa] 32 (0, 0))) := by show _ = _; rw [heap_alloc_old9 _ _ _ hszW]; exact hG1
          have hA0 : Hid ((W.alloc (.cells #[.int .i64 xk, .string xt, .int .u64 xn, .int .i64 xa] 32)).heap[w.heap.size]? = some (.cells #[.int .i64 0, .string ⟨#[]⟩, .int .u64 0, .int .i64 0] 32 (0, 0))) := by show _ = _; rw [heap_alloc_old9 _ _ _ (by omega)]; exact hG0
          obtain ⟨q0, q1, q2, q3, r0, r1, r2, r3⟩ := cells4 hG1
          have HB9 : Hid (Below w.heap.size w (W.alloc (.cells #[.int .i64 xk, .string xt, .int .u64 xn, .int .i64 xa] 32))) := Lib.hid ((HB.out.trans (hb.mono HB.out.size)).alloc (by omega) _)
          have HG1 := Lib.hid hG1
          have HG0 := Lib.hid hG0
          have HB8 := Lib.hid (HB.out.trans (hb.mono HB.out.size))
          clear hG1 hG0 hb hg1 hg0 HB EW HC
          go_wp2
          go_roundw
          case rel => exact ⟨1, by omega, by first | rfl | go_num, by rw [HN.out], by rw [HN.out]; exact hA1.out, hA0.out, HB9.out⟩
          case measure => simp [intOf]
      · have hpI : ¬ (0 : Int) < (xm : Int) := by omega
        have HN : Hid (bestK s 1 = (⟨fk, ft, fn, fa⟩, fm)) := by show _ = _; rw [HK.out]; unfold best; rw [if_neg (fun q => hp q.1)]
        clear HK
        have hix := ix0
        go_wp2_with fail
        clear hix
        refine (HC.out _ EW.out).mono ?_
        rintro e W ⟨rfl, hb⟩
        have hG1 := (hb.block _ hsz).trans hg1.out
        have hG0 := (hb.block _ (by omega)).trans hg0.out
        have hszW : w.heap.size + 1 < W.heap.size := Nat.lt_of_lt_of_le hsz hb.size
        have hneW : ¬ w.heap.size + 1 = W.heap.size := by omega
        have hA1 : Hid ((W.alloc (.cells #[.int .i64 xk, .string xt, .int .u64 xn, .int .i64 xa] 32)).heap[w.heap.size + 1]? = some (.cells #[.int .i64 fk, .string ft, .int .u64 fn, .int .i64 fa] 32 (0, 0))) := by show _ = _; rw [heap_alloc_old9 _ _ _ hszW]; exact hG1
        have hA0 : Hid ((W.alloc (.cells #[.int .i64 xk, .string xt, .int .u64 xn, .int .i64 xa] 32)).heap[w.heap.size]? = some (.cells #[.int .i64 0, .string ⟨#[]⟩, .int .u64 0, .int .i64 0] 32 (0, 0))) := by show _ = _; rw [heap_alloc_old9 _ _ _ (by omega)]; exact hG0
        obtain ⟨q0, q1, q2, q3, r0, r1, r2, r3⟩ := cells4 hG1
        have HB9 : Hid (Below w.heap.size w (W.alloc (.cells #[.int .i64 xk, .string xt, .int .u64 xn, .int .i64 xa] 32))) := Lib.hid ((HB.out.trans (hb.mono HB.out.size)).alloc (by omega) _)
        have HG1 := Lib.hid hG1
        have HG0 := Lib.hid hG0
        have HB8 := Lib.hid (HB.out.trans (hb.mono HB.out.size))
        clear hG1 hG0 hb hg1 hg0 HB EW HC
        go_wp2
        go_roundw
        case rel => exact ⟨1, by omega, by first | rfl | go_num, by rw [HN.out], by rw [HN.out]; exact hA1.out, hA0.out, HB9.out⟩
        case measure => simp [intOf]
    by_cases h9 : k = 1
    · subst h9
      clear h6 hk
      have HK : Hid (bestK s 2 = best (bestK s 1) (tkNum s)) := rfl
      have HC : Hid (RdC 20 s (tkNum s)) := rdC_1 s HS.out.2 HS.out.1
      obtain ⟨⟨⟨xk, xt, xn, xa⟩, xm⟩, hx⟩ : ∃ x, tkNum s = x := ⟨_, rfl⟩
      rw [hx] at HC HK
      rw [HF.out] at HK
      clear hx HF
      by_cases hp : 0 < xm
      · by_cases hle : fm ≤ xm
        · have hpI : (0 : Int) < (xm : Int) := by omega
          have hleI : (fm : Int) ≤ (xm : Int) := by omega
          have HN : Hid (bestK s 2 = (⟨xk, xt, xn, xa⟩, xm)) := by show _ = _; rw [HK.out]; unfold best; rw [if_pos ⟨hp, hle⟩]
          clear HK
          have hix := ix1
          go_wp2_with fail
          clear hix
          refine (HC.out _ EW.out).mono ?_
          rintro e W ⟨rfl, hb⟩
          have hG1 := (hb.block _ hsz).trans hg1.out
          have hG0 := (hb.block _ (by omega)).trans hg0.out
          have hszW : w.heap.size + 1 < W.heap.size := Nat.lt_of_lt_of_le hsz hb.size
          have hneW : ¬ w.heap.size + 1 = W.heap.size := by omega
          have hA1 : Hid ((W.alloc (.cells #[.int .i64 xk, .string xt, .int .u64 xn, .int .i64 xa] 32)).heap[w.heap.size + 1]? = some (.cells #[.int .i64 fk, .string ft, .int .u64 fn, .int .i64 fa] 32 (0, 0))) := by show _ = _; rw [heap_alloc_old9 _ _ _ hszW]; exact hG1
          have hA0 : Hid ((W.alloc (.cells #[.int .i64 xk, .string xt, .int .u64 xn, .int .i64 xa] 32)).heap[w.heap.size]? = some (.cells #[.int .i64 0, .string ⟨#[]⟩, .int .u64 0, .int .i64 0] 32 (0, 0))) := by show _ = _; rw [heap_alloc_old9 _ _ _ (by omega)]; exact hG0
          obtain ⟨q0, q1, q2, q3, r0, r1, r2, r3⟩ := cells4 hG1
          have HB9 : Hid (Below w.heap.size w (W.alloc (.cells #[.int .i64 xk, .string xt, .int .u64 xn, .int .i64 xa] 32))) := Lib.hid ((HB.out.trans (hb.mono HB.out.size)).alloc (by omega) _)
          have HG1 := Lib.hid hG1
          have HG0 := Lib.hid hG0
          have HB8 := Lib.hid (HB.out.trans (hb.mono HB.out.size))
          clear hG1 hG0 hb hg1 hg0 HB EW HC
          go_wp2
          go_roundw
          case rel => exact ⟨2, by omega, by first | rfl | go_num, by rw [HN.out], by rw [HN.out]; exact set4_al HG1.out _, (set4_al_other _ _ _ _ _ _ _ _ (by omega) (by omega)).trans HG0.out, HB8.out.trans (set4_al_below _ _ _ _ _ _ _ _ (by omega) (by omega))⟩
          case measure => simp [intOf]
        · have hpI : (0 : Int) < (xm : Int) := by omega
          have hleI : ¬ (fm : Int) ≤ (xm : Int) := by omega
          have HN : Hid (bestK s 2 = (⟨fk, ft, fn, fa⟩, fm)) := by show _ = _; rw [HK.out]; unfold best; rw [if_neg (fun q => hle q.2)]
          clear HK
          have hix := ix1
          go_wp2_with fail
          clear hix
          refine (HC.out _ EW.out).mono ?_
          rintro e W ⟨rfl, hb⟩
          have hG1 := (hb.block _ hsz).trans hg1.out
          have hG0 := (hb.block _ (by omega)).trans hg0.out
          have hszW : w.heap.size + 1 < W.heap.size := Nat.lt_of_lt_of_le hsz hb.size
          have hneW : ¬ w.heap.size + 1 = W.heap.size := by omega
          have hA1 : Hid ((W.alloc (.cells #[.int .i64 xk, .string xt, .int .u64 xn, .int .i64 xa] 32)).heap[w.heap.size + 1]? = some (.cells #[.int .i64 fk, .string ft, .int .u64 fn, .int .i64 fa] 32 (0, 0))) := by show _ = _; rw [heap_alloc_old9 _ _ _ hszW]; exact hG1
          have hA0 : Hid ((W.alloc (.cells #[.int .i64 xk, .string xt, .int .u64 xn, .int .i64 xa] 32)).heap[w.heap.size]? = some (.cells #[.int .i64 0, .string ⟨#[]⟩, .int .u64 0, .int .i64 0] 32 (0, 0))) := by show _ = _; rw [heap_alloc_old9 _ _ _ (by omega)]; exact hG0
          obtain ⟨q0, q1, q2, q3, r0, r1, r2, r3⟩ := cells4 hG1
          have HB9 : Hid (Below w.heap.size w (W.alloc (.cells #[.int .i64 xk, .string xt, .int .u64 xn, .int .i64 xa] 32))) := Lib.hid ((HB.out.trans (hb.mono HB.out.size)).alloc (by omega) _)
          have HG1 := Lib.hid hG1
          have HG0 := Lib.hid hG0
          have HB8 := Lib.hid (HB.out.trans (hb.mono HB.out.size))
          clear hG1 hG0 hb hg1 hg0 HB EW HC
          go_wp2
          go_roundw
          case rel => exact ⟨2, by omega, by first | rfl | go_num, by rw [HN.out], by rw [HN.out]; exact hA1.out, hA0.out, HB9.out⟩
          case measure => simp [intOf]
      · have hpI : ¬ (0 : Int) < (xm : Int) := by omega
        have HN : Hid (bestK s 2 = (⟨fk, ft, fn, fa⟩, fm)) := by show _ = _; rw [HK.out]; unfold best; rw [if_neg (fun q => hp q.1)]
        clear HK
        have hix := ix1
        go_wp2_with fail
        clear hix
        refine (HC.out _ EW.out).mono ?_
        rintro e W ⟨rfl, hb⟩
        have hG1 := (hb.block _ hsz).trans hg1.out
        have hG0 := (hb.block _ (by omega)).trans hg0.out
        have hszW : w.heap.size + 1 < W.heap.size := Nat.lt_of_lt_of_le hsz hb.size
        have hneW : ¬ w.heap.size + 1 = W.heap.size := by omega
        have hA1 : Hid ((W.alloc (.cells #[.int .i64 xk, .string xt, .int .u64 xn, .int .i64 xa] 32)).heap[w.heap.size + 1]? = some (.cells #[.int .i64 fk, .string ft, .int .u64 fn, .int .i64 fa] 32 (0, 0))) := by show _ = _; rw [heap_alloc_old9 _ _ _ hszW]; exact hG1
        have hA0 : Hid ((W.alloc (.cells #[.int .i64 xk, .string xt, .int .u64 xn, .int .i64 xa] 32)).heap[w.heap.size]? = some (.cells #[.int .i64 0, .string ⟨#[]⟩, .int .u64 0, .int .i64 0] 32 (0, 0))) := by show _ = _; rw [heap_alloc_old9 _ _ _ (by omega)]; exact hG0
        obtain ⟨q0, q1, q2, q3, r0, r1, r2, r3⟩ := cells4 hG1
        have HB9 : Hid (Below w.heap.size w (W.alloc (.cells #[.int .i64 xk, .string xt, .int .u64 xn, .int .i64 xa] 32))) := Lib.hid ((HB.out.trans (hb.mono HB.out.size)).alloc (by omega) _)
        have HG1 := Lib.hid hG1
        have HG0 := Lib.hid hG0
        have HB8 := Lib.hid (HB.out.trans (hb.mono HB.out.size))
        clear hG1 hG0 hb hg1 hg0 HB EW HC
        go_wp2
        go_roundw
        case rel => exact ⟨2, by omega, by first | rfl | go_num, by rw [HN.out], by rw [HN.out]; exact hA1.out, hA0.out, HB9.out⟩
        case measure => simp [intOf]
    by_cases h9 : k = 2
    · subst h9
      clear h6 hk
      have HK : Hid (bestK s 3 = best (bestK s 2) (tkMac s)) := rfl
      have HC : Hid (RdC 21 s (tkMac s)) := rdC_2 s HS.out.2 HS.out.1
      obtain ⟨⟨⟨xk, xt, xn, xa⟩, xm⟩, hx⟩ : ∃ x, tkMac s = x := ⟨_, rfl⟩
      rw [hx] at HC HK
      rw [HF.out] at HK
      clear hx HF
      by_cases hp : 0 < xm
      · by_cases hle : fm ≤ xm
        · have hpI : (0 : Int) < (xm : Int) := by omega
          have hleI : (fm : Int) ≤ (xm : Int) := by omega
          have HN : Hid (bestK s 3 = (⟨xk, xt, xn, xa⟩, xm)) := by show _ = _; rw [HK.out]; unfold best; rw [if_pos ⟨hp, hle⟩]
          clear HK
          have hix := ix2
          go_wp2_with fail
          clear hix
          refine (HC.out _ EW.out).mono ?_
          rintro e W ⟨rfl, hb⟩
          have hG1 := (hb.block _ hsz).trans hg1.out
          have hG0 := (hb.block _ (by omega)).trans hg0.out
          have hszW : w.heap.size + 1 < W.heap.size := Nat.lt_of_lt_of_le hsz hb.size
          have hneW : ¬ w.heap.size + 1 = W.heap.size := by omega
          have hA1 : Hid ((W.alloc (.cells #[.int .i64 xk, .string xt, .int .u64 xn, .int .i64 xa] 32)).heap[w.heap.size + 1]? = some (.cells #[.int .i64 fk, .string ft, .int .u64 fn, .int .i64 fa] 32 (0, 0))) := by show _ = _; rw [heap_alloc_old9 _ _ _ hszW]; exact hG1
          have hA0 : Hid ((W.alloc (.cells #[.int .i64 xk, .string xt, .int .u64 xn, .int .i64 xa] 32)).heap[w.heap.size]? = some (.cells #[.int .i64 0, .string ⟨#[]⟩, .int .u64 0, .int .i64 0] 32 (0, 0))) := by show _ = _; rw [heap_alloc_old9 _ _ _ (by omega)]; exact hG0
          obtain ⟨q0, q1, q2, q3, r0, r1, r2, r3⟩ := cells4 hG1
          have HB9 : Hid (Below w.heap.size w (W.alloc (.cells #[.int .i64 xk, .string xt, .int .u64 xn, .int .i64 xa] 32))) := Lib.hid ((HB.out.trans (hb.mono HB.out.size)).alloc (by omega) _)
          have HG1 := Lib.hid hG1
          have HG0 := Lib.hid hG0
          have HB8 := Lib.hid (HB.out.trans (hb.mono HB.out.size))
          clear hG1 hG0 hb hg1 hg0 HB EW HC
          go_wp2
          go_roundw
          case rel => exact ⟨3, by omega, by first | rfl | go_num, by rw [HN.out], by rw [HN.out]; exact set4_al HG1.out _, (set4_al_other _ _ _ _ _ _ _ _ (by omega) (by omega)).trans HG0.out, HB8.out.trans (set4_al_below _ _ _ _ _ _ _ _ (by omega) (by omega))⟩
          case measure => simp [intOf]
        · have hpI : (0 : Int) < (xm : Int) := by omega
          have hleI : ¬ (fm : Int) ≤ (xm : Int) := by omega
          have HN : Hid (bestK s 3 = (⟨fk, ft, fn, fa⟩, fm)) := by show _ = _; rw [HK.out]; unfold best; rw [if_neg (fun q => hle q.2)]
          clear HK
          have hix := ix2
          go_wp2_with fail
          clear hix
          refine (HC.out _ EW.out).mono ?_
          rintro e W ⟨rfl, hb⟩
          have hG1 := (hb.block _ hsz).trans hg1.out
          have hG0 := (hb.block _ (by omega)).trans hg0.out
          have hszW : w.heap.size + 1 < W.heap.size := Nat.lt_of_lt_of_le hsz hb.size
          have hneW : ¬ w.heap.size + 1 = W.heap.size := by omega
          have hA1 : Hid ((W.alloc (.cells #[.int .i64 xk, .string xt, .int .u64 xn, .int .i64 xa] 32)).heap[w.heap.size + 1]? = some (.cells #[.int .i64 fk, .string ft, .int .u64 fn, .int .i64 fa] 32 (0, 0))) := by show _ = _; rw [heap_alloc_old9 _ _ _ hszW]; exact hG1
          have hA0 : Hid ((W.alloc (.cells #[.int .i64 xk, .string xt, .int .u64 xn, .int .i64 xa] 32)).heap[w.heap.size]? = some (.cells #[.int .i64 0, .string ⟨#[]⟩, .int .u64 0, .int .i64 0] 32 (0, 0))) := by show _ = _; rw [heap_alloc_old9 _ _ _ (by omega)]; exact hG0
          obtain ⟨q0, q1, q2, q3, r0, r1, r2, r3⟩ := cells4 hG1
          have HB9 : Hid (Below w.heap.size w (W.alloc (.cells #[.int .i64 xk, .string xt, .int .u64 xn, .int .i64 xa] 32))) := Lib.hid ((HB.out.trans (hb.mono HB.out.size)).alloc (by omega) _)
          have HG1 := Lib.hid hG1
          have HG0 := Lib.hid hG0
          have HB8 := Lib.hid (HB.out.trans (hb.mono HB.out.size))
          clear hG1 hG0 hb hg1 hg0 HB EW HC
          go_wp2
          go_roundw
          case rel => exact ⟨3, by omega, by first | rfl | go_num, by rw [HN.out], by rw [HN.out]; exact hA1.out, hA0.out, HB9.out⟩
          case measure => simp [intOf]
      · have hpI : ¬ (0 : Int) < (xm : Int) := by omega
        have HN : Hid (bestK s 3 = (⟨fk, ft, fn, fa⟩, fm)) := by show _ = _; rw [HK.out]; unfold best; rw [if_neg (fun q => hp q.1)]
        clear HK
        have hix := ix2
        go_wp2_with fail
        clear hix
        refine (HC.out _ EW.out).mono ?_
        rintro e W ⟨rfl, hb⟩
        have hG1 := (hb.block _ hsz).trans hg1.out
        have hG0 := (hb.block _ (by omega)).trans hg0.out
        have hszW : w.heap.size + 1 < W.heap.size := Nat.lt_of_lt_of_le hsz hb.size
        have hneW : ¬ w.heap.size + 1 = W.heap.size := by omega
        have hA1 : Hid ((W.alloc (.cells #[.int .i64 xk, .string xt, .int .u64 xn, .int .i64 xa] 32)).heap[w.heap.size + 1]? = some (.cells #[.int .i64 fk, .string ft, .int .u64 fn, .int .i64 fa] 32 (0, 0))) := by show _ = _; rw [heap_alloc_old9 _ _ _ hszW]; exact hG1
        have hA0 : Hid ((W.alloc (.cells #[.int .i64 xk, .string xt, .int .u64 xn, .int .i64 xa] 32)).heap[w.heap.size]? = some (.cells #[.int .i64 0, .string ⟨#[]⟩, .int .u64 0, .int .i64 0] 32 (0, 0))) := by show _ = _; rw [heap_alloc_old9 _ _ _ (by omega)]; exact hG0
        obtain ⟨q0, q1, q2, q3, r0, r1, r2, r3⟩ := cells4 hG1
        have HB9 : Hid (Below w.heap.size w (W.alloc (.cells #[.int .i64 xk, .string xt, .int .u64 xn, .int .i64 xa] 32))) := Lib.hid ((HB.out.trans (hb.mono HB.out.size)).alloc (by omega) _)
        have HG1 := Lib.hid hG1
        have HG0 := Lib.hid hG0
        have HB8 := Lib.hid (HB.out.trans (hb.mono HB.out.size))
        clear hG1 hG0 hb hg1 hg0 HB EW HC
        go_wp2
        go_roundw
        case rel => exact ⟨3, by omega, by first | rfl | go_num, by rw [HN.out], by rw [HN.out]; exact hA1.out, hA0.out, HB9.out⟩
        case measure => simp [intOf]
    by_cases h9 : k = 3
    · subst h9
      clear h6 hk
      have HK : Hid (bestK s 4 = best (bestK s 3) (tkAddr s)) := rfl
      have HC : Hid (RdC 22 s (tkAddr s)) := rdC_3 s HS.out.2 HS.out.1
      obtain ⟨⟨⟨xk, xt, xn, xa⟩, xm⟩, hx⟩ : ∃ x, tkAddr s = x := ⟨_, rfl⟩
      rw [hx] at HC HK
      rw [HF.out] at HK
      clear hx HF
      by_cases hp : 0 < xm
      · by_cases hle : fm ≤ xm
        · have hpI : (0 : Int) < (xm : Int) := by omega
          have hleI : (fm : Int) ≤ (xm : Int) := by omega
          have HN : Hid (bestK s 4 = (⟨xk, xt, xn, xa⟩, xm)) := by show _ = _; rw [HK.out]; unfold best; rw [if_pos ⟨hp, hle⟩]
          clear HK
          have hix := ix3
          go_wp2_with fail
          clear hix
          refine (HC.out _ EW.out).mono ?_
          rintro e W ⟨rfl, hb⟩
          have hG1 := (hb.block _ hsz).trans hg1.out
          have hG0 := (hb.block _ (by omega)).trans hg0.out
          have hszW : w.heap.size + 1 < W.heap.size := Nat.lt_of_lt_of_le hsz hb.size
          have hneW : ¬ w.heap.size + 1 = W.heap.size := by omega
          have hA1 : Hid ((W.alloc (.cells #[.int .i64 xk, .string xt, .int .u64 xn, .int .i64 xa] 32)).heap[w.heap.size + 1]? = some (.cells #[.int .i64 fk, .string ft, .int .u64 fn, .int .i64 fa] 32 (0, 0))) := by show _ = _; rw [heap_alloc_old9 _ _ _ hszW]; exact hG1
          have hA0 : Hid ((W.alloc (.cells #[.int .i64 xk, .string xt, .int .u64 xn, .int .i64 xa] 32)).heap[w.heap.size]? = some (.cells #[.int .i64 0, .string ⟨#[]⟩, .int .u64 0, .int .i64 0] 32 (0, 0))) := by show _ = _; rw [heap_alloc_old9 _ _ _ (by omega)]; exact hG0
          obtain ⟨q0, q1, q2, q3, r0, r1, r2, r3⟩ := cells4 hG1
          have HB9 : Hid (Below w.heap.size w (W.alloc (.cells #[.int .i64 xk, .string xt, .int .u64 xn, .int .i64 xa] 32))) := Lib.hid ((HB.out.trans (hb.mono HB.out.size)).alloc (by omega) _)
          have HG1 := Lib.hid hG1
          have HG0 := Lib.hid hG0
          have HB8 := Lib.hid (HB.out.trans (hb.mono HB.out.size))
          clear hG1 hG0 hb hg1 hg0 HB EW HC
          go_wp2
          go_roundw
          case rel => exact ⟨4, by omega, by first | rfl | go_num, by rw [HN.out], by rw [HN.out]; exact set4_al HG1.out _, (set4_al_other _ _ _ _ _ _ _ _ (by omega) (by omega)).trans HG0.out, HB8.out.trans (set4_al_below _ _ _ _ _ _ _ _ (by omega) (by omega))⟩
          case measure => simp [intOf]
        · have hpI : (0 : Int) < (xm : Int) := by omega
          have hleI : ¬ (fm : Int) ≤ (xm : Int) := by omega
          have HN : Hid (bestK s 4 = (⟨fk, ft, fn, fa⟩, fm)) := by show _ = _; rw [HK.out]; unfold best; rw [if_neg (fun q => hle q.2)]
          clear HK
          have hix := ix3
          go_wp2_with fail
          clear hix
          refine (HC.out _ EW.out).mono ?_
          rintro e W ⟨rfl, hb⟩
          have hG1 := (hb.block _ hsz).trans hg1.out
          have hG0 := (hb.block _ (by omega)).trans hg0.out
          have hszW : w.heap.size + 1 < W.heap.size := Nat.lt_of_lt_of_le hsz hb.size
          have hneW : ¬ w.heap.size + 1 = W.heap.size := by omega
          have hA1 : Hid ((W.alloc (.cells #[.int .i64 xk, .string xt, .int .u64 xn, .int .i64 xa] 32)).heap[w.heap.size + 1]? = some (.cells #[.int .i64 fk, .string ft, .int .u64 fn, .int .i64 fa] 32 (0, 0))) := by show _ = _; rw [heap_alloc_old9 _ _ _ hszW]; exact hG1
          have hA0 : Hid ((W.alloc (.cells #[.int .i64 xk, .string xt, .int .u64 xn, .int .i64 xa] 32)).heap[w.heap.size]? = some (.cells #[.int .i64 0, .string ⟨#[]⟩, .int .u64 0, .int .i64 0] 32 (0, 0))) := by show _ = _; rw [heap_alloc_old9 _ _ _ (by omega)]; exact hG0
          obtain ⟨q0, q1, q2, q3, r0, r1, r2, r3⟩ := cells4 hG1
          have HB9 : Hid (Below w.heap.size w (W.alloc (.cells #[.int .i64 xk, .string xt, .int .u64 xn, .int .i64 xa] 32))) := Lib.hid ((HB.out.trans (hb.mono HB.out.size)).alloc (by omega) _)
          have HG1 := Lib.hid hG1
          have HG0 := Lib.hid hG0
          have HB8 := Lib.hid (HB.out.trans (hb.mono HB.out.size))
          clear hG1 hG0 hb hg1 hg0 HB EW HC
          go_wp2
          go_roundw
          case rel => exact ⟨4, by omega, by first | rfl | go_num, by rw [HN.out], by rw [HN.out]; exact hA1.out, hA0.out, HB9.out⟩
          case measure => simp [intOf]
      · have hpI : ¬ (0 : Int) < (xm : Int) := by omega
        have HN : Hid (bestK s 4 = (⟨fk, ft, fn, fa⟩, fm)) := by show _ = _; rw [HK.out]; unfold best; rw [if_neg (fun q => hp q.1)]
        clear HK
        have hix := ix3
        go_wp2_with fail
        clear hix
        refine (HC.out _ EW.out).mono ?_
        rintro e W ⟨rfl, hb⟩
        have hG1 := (hb.block _ hsz).trans hg1.out
        have hG0 := (hb.block _ (by omega)).trans hg0.out
        have hszW : w.heap.size + 1 < W.heap.size := Nat.lt_of_lt_of_le hsz hb.size
        have hneW : ¬ w.heap.size + 1 = W.heap.size := by omega
        have hA1 : Hid ((W.alloc (.cells #[.int .i64 xk, .string xt, .int .u64 xn, .int .i64 xa] 32)).heap[w.heap.size + 1]? = some (.cells #[.int .i64 fk, .string ft, .int .u64 fn, .int .i64 fa] 32 (0, 0))) := by show _ = _; rw [heap_alloc_old9 _ _ _ hszW]; exact hG1
        have hA0 : Hid ((W.alloc (.cells #[.int .i64 xk, .string xt, .int .u64 xn, .int .i64 xa] 32)).heap[w.heap.size]? = some (.cells #[.int .i64 0, .string ⟨#[]⟩, .int .u64 0, .int .i64 0] 32 (0, 0))) := by show _ = _; rw [heap_alloc_old9 _ _ _ (by omega)]; exact hG0
        obtain ⟨q0, q1, q2, q3, r0, r1, r2, r3⟩ := cells4 hG1
        have HB9 : Hid (Below w.heap.size w (W.alloc (.cells #[.int .i64 xk, .string xt, .int .u64 xn, .int .i64 xa] 32))) := Lib.hid ((HB.out.trans (hb.mono HB.out.size)).alloc (by omega) _)
        have HG1 := Lib.hid hG1
        have HG0 := Lib.hid hG0
        have HB8 := Lib.hid (HB.out.trans (hb.mono HB.out.size))
        clear hG1 hG0 hb hg1 hg0 HB EW HC
        go_wp2
        go_roundw
        case rel => exact ⟨4, by omega, by first | rfl | go_num, by rw [HN.out], by rw [HN.out]; exact hA1.out, hA0.out, HB9.out⟩
        case measure => simp [intOf]
    by_cases h9 : k = 4
    · subst h9
      clear h6 hk
      have HK : Hid (bestK s 5 = best (bestK s 4) (tkOp s)) := rfl
      have HC : Hid (RdC 23 s (tkOp s)) := rdC_4 s HS.out.2 HS.out.1
      obtain ⟨⟨⟨xk, xt, xn, xa⟩, xm⟩, hx⟩ : ∃ x, tkOp s = x := ⟨_, rfl⟩
      rw [hx] at HC HK
      rw [HF.out] at HK
      clear hx HF
      by_cases hp : 0 < xm
      · by_cases hle : fm ≤ xm
        · have hpI : (0 : Int) < (xm : Int) := by omega
          have hleI : (fm : Int) ≤ (xm : Int) := by omega
          have HN : Hid (bestK s 5 = (⟨xk, xt, xn, xa⟩, xm)) := by show _ = _; rw [HK.out]; unfold best; rw [if_pos ⟨hp, hle⟩]
          clear HK
          have hix := ix4
          go_wp2_with fail
          clear hix
          refine (HC.out _ EW.out).mono ?_
          rintro e W ⟨rfl, hb⟩
          have hG1 := (hb.block _ hsz).trans hg1.out
          have hG0 := (hb.block _ (by omega)).trans hg0.out
          have hszW : w.heap.size + 1 < W.heap.size := Nat.lt_of_lt_of_le hsz hb.size
          have hneW : ¬ w.heap.size + 1 = W.heap.size := by omega
          have hA1 : Hid ((W.alloc (.cells #[.int .i64 xk, .string xt, .int .u64 xn, .int .i64 xa] 32)).heap[w.heap.size + 1]? = some (.cells #[.int .i64 fk, .string ft, .int .u64 fn, .int .i64 fa] 32 (0, 0))) := by show _ = _; rw [heap_alloc_old9 _ _ _ hszW]; exact hG1
          have hA0 : Hid ((W.alloc (.cells #[.int .i64 xk, .string xt, .int .u64 xn, .int .i64 xa] 32)).heap[w.heap.size]? = some (.cells #[.int .i64 0, .string ⟨#[]⟩, .int .u64 0, .int .i64 0] 32 (0, 0))) := by show _ = _; rw [heap_alloc_old9 _ _ _ (by omega)]; exact hG0
          obtain ⟨q0, q1, q2, q3, r0, r1, r2, r3⟩ := cells4 hG1
          have HB9 : Hid (Below w.heap.size w (W.alloc (.cells #[.int .i64 xk, .string xt, .int .u64 xn, .int .i64 xa] 32))) := Lib.hid ((HB.out.trans (hb.mono HB.out.size)).alloc (by omega) _)
          have HG1 := Lib.hid hG1
          have HG0 := Lib.hid hG0
          have HB8 := Lib.hid (HB.out.trans (hb.mono HB.out.size))
          clear hG1 hG0 hb hg1 hg0 HB EW HC
          go_wp2
          go_roundw
          case rel => exact ⟨5, by omega, by first | rfl | go_num, by rw [HN.out], by rw [HN.out]; exact set4_al HG1.out _, (set4_al_other _ _ _ _ _ _ _ _ (by omega) (by omega)).trans HG0.out, HB8.out.trans (set4_al_below _ _ _ _ _ _ _ _ (by omega) (by omega))⟩
          case measure => simp [intOf]
        · have hpI : (0 : Int) < (xm : Int) := by omega
          have hleI : ¬ (fm : Int) ≤ (xm : Int) := by omega
          have HN : Hid (bestK s 5 = (⟨fk, ft, fn, fa⟩, fm)) := by show _ = _; rw [HK.out]; unfold best; rw [if_neg (fun q => hle q.2)]
          clear HK
          have hix := ix4
          go_wp2_with fail
          clear hix
          refine (HC.out _ EW.out).mono ?_
          rintro e W ⟨rfl, hb⟩
          have hG1 := (hb.block _ hsz).trans hg1.out
          have hG0 := (hb.block _ (by omega)).trans hg0.out
          have hszW : w.heap.size + 1 < W.heap.size := Nat.lt_of_lt_of_le hsz hb.size
          have hneW : ¬ w.heap.size + 1 = W.heap.size := by omega
          have hA1 : Hid ((W.alloc (.cells #[.int .i64 xk, .string xt, .int .u64 xn, .int .i64 xa] 32)).heap[w.heap.size + 1]? = some (.cells #[.int .i64 fk, .string ft, .int .u64 fn, .int .i64 fa] 32 (0, 0))) := by show _ = _; rw [heap_alloc_old9 _ _ _ hszW]; exact hG1
          have hA0 : Hid ((W.alloc (.cells #[.int .i64 xk, .string xt, .int .u64 xn, .int .i64 xa] 32)).heap[w.heap.size]? = some (.cells #[.int .i64 0, .string ⟨#[]⟩, .int .u64 0, .int .i64 0] 32 (0, 0))) := by show _ = _; rw [heap_alloc_old9 _ _ _ (by omega)]; exact hG0
          obtain ⟨q0, q1, q2, q3, r0, r1, r2, r3⟩ := cells4 hG1
          have HB9 : Hid (Below w.heap.size w (W.alloc (.cells #[.int .i64 xk, .string xt, .int .u64 xn, .int .i64 xa] 32))) := Lib.hid ((HB.out.trans (hb.mono HB.out.size)).alloc (by omega) _)
          have HG1 := Lib.hid hG1
          have HG0 := Lib.hid hG0
          have HB8 := Lib.hid (HB.out.trans (hb.mono HB.out.size))
          clear hG1 hG0 hb hg1 hg0 HB EW HC
          go_wp2
          go_roundw
          case rel => exact ⟨5, by omega, by first | rfl | go_num, by rw [HN.out], by rw [HN.out]; exact hA1.out, hA0.out, HB9.out⟩
          case measure => simp [intOf]
      · have hpI : ¬ (0 : Int) < (xm : Int) := by omega
        have HN : Hid (bestK s 5 = (⟨fk, ft, fn, fa⟩, fm)) := by show _ = _; rw [HK.out]; unfold best; rw [if_neg (fun q => hp q.1)]
        clear HK
        have hix := ix4
        go_wp2_with fail
        clear hix
        refine (HC.out _ EW.out).mono ?_
        rintro e W ⟨rfl, hb⟩
        have hG1 := (hb.block _ hsz).trans hg1.out
        have hG0 := (hb.block _ (by omega)).trans hg0.out
        have hszW : w.heap.size + 1 < W.heap.size := Nat.lt_of_lt_of_le hsz hb.size
        have hneW : ¬ w.heap.size + 1 = W.heap.size := by omega
        have hA1 : Hid ((W.alloc (.cells #[.int .i64 xk, .string xt, .int .u64 xn, .int .i64 xa] 32)).heap[w.heap.size + 1]? = some (.cells #[.int .i64 fk, .string ft, .int .u64 fn, .int .i64 fa] 32 (0, 0))) := by show _ = _; rw [heap_alloc_old9 _ _ _ hszW]; exact hG1
        have hA0 : Hid ((W.alloc (.cells #[.int .i64 xk, .string xt, .int .u64 xn, .int .i64 xa] 32)).heap[w.heap.size]? = some (.cells #[.int .i64 0, .string ⟨#[]⟩, .int .u64 0, .int .i64 0] 32 (0, 0))) := by show _ = _; rw [heap_alloc_old9 _ _ _ (by omega)]; exact hG0
        obtain ⟨q0, q1, q2, q3, r0, r1, r2, r3⟩ := cells4 hG1
        have HB9 : Hid (Below w.heap.size w (W.alloc (.cells #[.int .i64 xk, .string xt, .int .u64 xn, .int .i64 xa] 32))) := Lib.hid ((HB.out.trans (hb.mono HB.out.size)).alloc (by omega) _)
        have HG1 := Lib.hid hG1
        have HG0 := Lib.hid hG0
        have HB8 := Lib.hid (HB.out.trans (hb.mono HB.out.size))
        clear hG1 hG0 hb hg1 hg0 HB EW HC
        go_wp2
        go_roundw
        case rel => exact ⟨5, by omega, by first | rfl | go_num, by rw [HN.out], by rw [HN.out]; exact hA1.out, hA0.out, HB9.out⟩
        case measure => simp [intOf]
    by_cases h9 : k = 5
    · subst h9
      clear h6 hk
      have HK : Hid (bestK s 6 = best (bestK s 5) (tkText s)) := rfl
      have HC : Hid (RdC 24 s (tkText s)) := rdC_5 s HS.out.2 HS.out.1
      obtain ⟨⟨⟨xk, xt, xn, xa⟩, xm⟩, hx⟩ : ∃ x, tkText s = x := ⟨_, rfl⟩
      rw [hx] at HC HK
      rw [HF.out] at HK
      clear hx HF
      by_cases hp : 0 < xm
      · by_cases hle : fm ≤ xm
        · have hpI : (0 : Int) < (xm : Int) := by omega
          have hleI : (fm : Int) ≤ (xm : Int) := by omega
          have HN : Hid (bestK s 6 = (⟨xk, xt, xn, xa⟩, xm)) := by show _ = _; rw [HK.out]; unfold best; rw [if_pos ⟨hp, hle⟩]
          clear HK
          have hix := ix5
          go_wp2_with fail
          clear hix
          refine (HC.out _ EW.out).mono ?_
          rintro e W ⟨rfl, hb⟩
          have hG1 := (hb.block _ hsz).trans hg1.out
          have hG0 := (hb.block _ (by omega)).trans hg0.out
          have hszW : w.heap.size + 1 < W.heap.size := Nat.lt_of_lt_of_le hsz hb.size
          have hneW : ¬ w.heap.size + 1 = W.heap.size := by omega
          have hA1 : Hid ((W.alloc (.cells #[.int .i64 xk, .string xt, .int .u64 xn, .int .i64 xa] 32)).heap[w.heap.size + 1]? = some (.cells #[.int .i64 fk, .string ft, .int .u64 fn, .int .i64 fa] 32 (0, 0))) := by show _ = _; rw [heap_alloc_old9 _ _ _ hszW]; exact hG1
          have hA0 : Hid ((W.alloc (.cells #[.int .i64 xk, .string xt, .int .u64 xn, .int .i64 xa] 32)).heap[w.heap.size]? = some (.cells #[.int .i64 0, .string ⟨#[]⟩, .int .u64 0, .int .i64 0] 32 (0, 0))) := by show _ = _; rw [heap_alloc_old9 _ _ _ (by omega)]; exact hG0
          obtain ⟨q0, q1, q2, q3, r0, r1, r2, r3⟩ := cells4 hG1
          have HB9 : Hid (Below w.heap.size w (W.alloc (.cells #[.int .i64 xk, .string xt, .int .u64 xn, .int .i64 xa] 32))) := Lib.hid ((HB.out.trans (hb.mono HB.out.size)).alloc (by omega) _)
          have HG1 := Lib.hid hG1
          have HG0 := Lib.hid hG0
          have HB8 := Lib.hid (HB.out.trans (hb.mono HB.out.size))
          clear hG1 hG0 hb hg1 hg0 HB EW HC
          go_wp2
          go_roundw
          case rel => exact ⟨6, by omega, by first | rfl | go_num, by rw [HN.out], by rw [HN.out]; exact set4_al HG1.out _, (set4_al_other _ _ _ _ _ _ _ _ (by omega) (by omega)).trans HG0.out, HB8.out.trans (set4_al_below _ _ _ _ _ _ _ _ (by omega) (by omega))⟩
          case measure => simp [intOf]
        · have hpI : (0 : Int) < (xm : Int) := by omega
          have hleI : ¬ (fm : Int) ≤ (xm : Int) := by omega
          have HN : Hid (bestK s 6 = (⟨fk, ft, fn, fa⟩, fm)) := by show _ = _; rw [HK.out]; unfold best; rw [if_neg (fun q => hle q.2)]
          clear HK
          have hix := ix5
          go_wp2_with fail
          clear hix
          refine (HC.out _ EW.out).mono ?_
          rintro e W ⟨rfl, hb⟩
          have hG1 := (hb.block _ hsz).trans hg1.out
          have hG0 := (hb.block _ (by omega)).trans hg0.out
          have hszW : w.heap.size + 1 < W.heap.size := Nat.lt_of_lt_of_le hsz hb.size
          have hneW : ¬ w.heap.size + 1 = W.heap.size := by omega
          have hA1 : Hid ((W.alloc (.cells #[.int .i64 xk, .string xt, .int .u64 xn, .int .i64 xa] 32)).heap[w.heap.size + 1]? = some (.cells #[.int .i64 fk, .string ft, .int .u64 fn, .int .i64 fa] 32 (0, 0))) := by show _ = _; rw [heap_alloc_old9 _ _ _ hszW]; exact hG1
          have hA0 : Hid ((W.alloc (.cells #[.int .i64 xk, .string xt, .int .u64 xn, .int .i64 xa] 32)).heap[w.heap.size]? = some (.cells #[.int .i64 0, .string ⟨#[]⟩, .int .u64 0, .int .i64 0] 32 (0, 0))) := by show _ = _; rw [heap_alloc_old9 _ _ _ (by omega)]; exact hG0
          obtain ⟨q0, q1, q2, q3, r0, r1, r2, r3⟩ := cells4 hG1
          have HB9 : Hid (Below w.heap.size w (W.alloc (.cells #[.int .i64 xk, .string xt, .int .u64 xn, .int .i64 xa] 32))) := Lib.hid ((HB.out.trans (hb.mono HB.out.size)).alloc (by omega) _)
          have HG1 := Lib.hid hG1
          have HG0 := Lib.hid hG0
          have HB8 := Lib.hid (HB.out.trans (hb.mono HB.out.size))
          clear hG1 hG0 hb hg1 hg0 HB EW HC
          go_wp2
          go_roundw
          case rel => exact ⟨6, by omega, by first | rfl | go_num, by rw [HN.out], by rw [HN.out]; exact hA1.out, hA0.out, HB9.out⟩
          case measure => simp [intOf]
      · have hpI : ¬ (0 : Int) < (xm : Int) := by omega
        have HN : Hid (bestK s 6 = (⟨fk, ft, fn, fa⟩, fm)) := by show _ = _; rw [HK.out]; unfold best; rw [if_neg (fun q => hp q.1)]
        clear HK
        have hix := ix5
        go_wp2_with fail
        clear hix
        refine (HC.out _ EW.out).mono ?_
        rintro e W ⟨rfl, hb⟩
        have hG1 := (hb.block _ hsz).trans hg1.out
        have hG0 := (hb.block _ (by omega)).trans hg0.out
        have hszW : w.heap.size + 1 < W.heap.size := Nat.lt_of_lt_of_le hsz hb.size
        have hneW : ¬ w.heap.size + 1 = W.heap.size := by omega
        have hA1 : Hid ((W.alloc (.cells #[.int .i64 xk, .string xt, .int .u64 xn, .int .i64 xa] 32)).heap[w.heap.size + 1]? = some (.cells #[.int .i64 fk, .string ft, .int .u64 fn, .int .i64 fa] 32 (0, 0))) := by show _ = _; rw [heap_alloc_old9 _ _ _ hszW]; exact hG1
        have hA0 : Hid ((W.alloc (.cells #[.int .i64 xk, .string xt, .int .u64 xn, .int .i64 xa] 32)).heap[w.heap.size]? = some (.cells #[.int .i64 0, .string ⟨#[]⟩, .int .u64 0, .int .i64 0] 32 (0, 0))) := by show _ = _; rw [heap_alloc_old9 _ _ _ (by omega)]; exact hG0
        obtain ⟨q0, q1, q2, q3, r0, r1, r2, r3⟩ := cells4 hG1
        have HB9 : Hid (Below w.heap.size w (W.alloc (.cells #[.int .i64 xk, .string xt, .int .u64 xn, .int .i64 xa] 32))) := Lib.hid ((HB.out.trans (hb.mono HB.out.size)).alloc (by omega) _)
        have HG1 := Lib.hid hG1
        have HG0 := Lib.hid hG0
        have HB8 := Lib.hid (HB.out.trans (hb.mono HB.out.size))
        clear hG1 hG0 hb hg1 hg0 HB EW HC
        go_wp2
        go_roundw
        case rel => exact ⟨6, by omega, by first | rfl | go_num, by rw [HN.out], by rw [HN.out]; exact hA1.out, hA0.out, HB9.out⟩
        case measure => simp [intOf]
    exfalso; omega
end Go.Proofs.YtajjffjnnjklnaaDoor
