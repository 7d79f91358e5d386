/- What is no count; a pulse of counts: Of. Conditions: rows can be read. -/
import Derived.Test.YthefgplobhmfcabPD
namespace Go.Proofs.Ythefgplobhmfcab
open Go.RowKit
theorem wpList_append_run {ops : Array Oper} {rest : List Oper} {op : Oper} {a : Act} {w w' : World} {Q : Exit → Act → World → Prop} (hgd : op.guard = none) (s x : Operand) (t : TypeId) (ho : op.op = Op.call { callee := Callee.builtin Builtin.append, args := #[s, x], argTypes := #[t, t] })
    (sv xv : Value) (hs : a.eval s = sv) (hx : a.eval x = xv) (v : Value) (hr : (Builtin.append_ #[t, t] op.type #[sv, xv]).run Try.prog w = .ok v w')
    (h : wpList Try.prog ops Q rest (a.put op.dst v) w') : wpList Try.prog ops Q (op :: rest) a w := by
  refine wpList_plain hgd fun K hK => ?_
  unfold Oper.wp
  simp [execOp, ho, resolve, invoke, builtin, hs, hx, hr, Result.andThen]
  exact hK _ _ h
theorem wpList_append_run2 {ops : Array Oper} {rest : List Oper} {op : Oper} {a : Act} {w w' : World} {Q : Exit → Act → World → Prop} (hgd : op.guard = none) (s x : Operand) (t t2 : TypeId) (ho : op.op = Op.call { callee := Callee.builtin Builtin.append, args := #[s, x], argTypes := #[t, t2] })
    (sv xv : Value) (hs : a.eval s = sv) (hx : a.eval x = xv) (v : Value) (hr : (Builtin.append_ #[t, t2] op.type #[sv, xv]).run Try.prog w = .ok v w')
    (h : wpList Try.prog ops Q rest (a.put op.dst v) w') : wpList Try.prog ops Q (op :: rest) a w := by
  refine wpList_plain hgd fun K hK => ?_
  unfold Oper.wp
  simp [execOp, ho, resolve, invoke, builtin, hs, hx, hr, Result.andThen]
  exact hK _ _ h
theorem own_base {w : World} {base base' : Nat} {e : TypeId} {k : Nat} {v : Value} {n : Nat} {xs : List Value} (h : w.ownsRow base e k v n xs) (hb : base' ≤ base) : w.ownsRow base' e k v n xs := by
  refine ⟨h.1, ?_⟩
  rcases h.2 with h' | ⟨g, cap, cur, e1, e2, e3⟩
  · exact .inl h'
  · exact .inr ⟨g, cap, cur, e1, Nat.le_trans hb e2, e3⟩
/-- No count. -/
def wrongB (x : Int) : Bool := decide (x < 0) || decide (1048576 < x)
theorem isWrong_any (x : Int) (w : World) : Calls Try.prog 11 #[.int .i64 x] w fun e w' => e = .returned (.bool (wrongB x)) ∧ w' = w := by
  go_enter Try.func11, Try.ntmps11
  rcases (by omega : x < 0 ∨ 0 ≤ x) with hx | hx
  · have e : wrongB x = true := by simp [wrongB, hx]
    rw [e]
    go_wp2
    go_ret
    exact ⟨rfl, rfl⟩
  · have e : wrongB x = decide (1048576 < x) := by simp only [wrongB, decide_eq_false (show ¬ x < 0 by omega), Bool.false_or]
    rw [e]
    go_wp2
    go_ret
    exact ⟨by simp; omega, rfl⟩
theorem index_any (a : Option Addr) (n c : Nat) (L : List Int) (w : World) (hn : n ≤ 1048576) (h : IS w a n L) :
    Calls Try.prog 16 #[.slice a n c, .func (.func 11) #[] #[]] w fun e w' => (∃ r, e = .returned (.int .i64 r) ∧ decide (0 ≤ r) = L.any wrongB) ∧ w' = w := by
  have H : Hid _ := h
  have hl := h.len
  clear h
  go_enter Try.func16, Try.ntmps16
  go_wp2_with fail
  go_loopw [8] (fun i wr => ∃ k : Nat, k ≤ n ∧ i = .int .i64 k ∧ Hid ((L.drop k).any wrongB = L.any wrongB) ∧ wr = w) (fun i _ => n - (intOf i).toNat)
  case atStart => exact ⟨0, by omega, rfl, rfl, rfl⟩
  case round =>
    obtain ⟨k, hk, rfl, hF, rfl⟩ := hrel
    by_cases hlt : k < n
    · have hkI : (k : Int) < n := by omega
      obtain ⟨o, ho⟩ := getK (os := L) (k := k) (by omega)
      obtain ⟨b, off, rfl, c0, hbl⟩ := H.out.at ho
      have hD := drop_cons ho
      cases hw : wrongB o
      · have HF : Hid ((L.drop (k + 1)).any wrongB = L.any wrongB) := by show _ = _; rw [← hF.out, hD, List.any_cons, hw, Bool.false_or]
        clear hF hD ho
        go_wp2_with fail
        refine (isWrong_any _ _).mono ?_
        rintro e W ⟨rfl, rfl⟩
        rw [hw]
        go_wp2
        go_roundw
        case rel => exact ⟨k + 1, by omega, by go_num, HF, trivial⟩
        case measure => simp [intOf]; omega
      · have HF : Hid (L.any wrongB = true) := by show _ = _; rw [← hF.out, hD, List.any_cons, hw, Bool.true_or]
        clear hF hD ho
        go_wp2_with fail
        refine (isWrong_any _ _).mono ?_
        rintro e W ⟨rfl, rfl⟩
        rw [hw]
        go_wp2
        go_ret
        exact ⟨⟨k, rfl, by rw [HF.out]; simp⟩, rfl⟩
    · obtain rfl : n = k := by omega
      have HF : Hid (L.any wrongB = false) := by show _ = _; rw [← hF.out, List.drop_of_length_le (by omega)]; rfl
      clear hF
      go_wp2
      go_ret
      exact ⟨⟨-1, rfl, by rw [HF.out]; rfl⟩, rfl⟩
theorem contains_any (a : Option Addr) (n c : Nat) (L : List Int) (w : World) (hn : n ≤ 1048576) (h : IS w a n L) :
    Calls Try.prog 10 #[.slice a n c, .func (.func 11) #[] #[]] w fun e w' => e = .returned (.bool (L.any wrongB)) ∧ w' = w := by
  have H : Hid _ := h
  clear h
  go_enter Try.func10, Try.ntmps10
  go_wp2_with fail
  refine (index_any _ _ _ L _ hn H.out).mono ?_
  rintro e W ⟨⟨r, rfl, hr⟩, rfl⟩
  have HR : Hid _ := hr
  clear hr
  go_wp2
  go_ret
  exact ⟨by rw [← HR.out]; rfl, rfl⟩
theorem clone_any (g off n c : Nat) (L : List Int) (w : World) (hn : n ≤ 1048576) (h : IS w (some ⟨g, off, none⟩) n L) :
    Calls Try.prog 12 #[.slice (some ⟨g, off, none⟩) n c] w fun e w' => ∃ a' c', e = .returned (.slice a' n c') ∧ w'.ownsRow w.heap.size 3 1 (.slice a' n c') L.length (L.map (Value.int .i64)) ∧ Below w.heap.size w w' := by
  have h1 := h.below (below1 w (.cells #[] 3))
  obtain ⟨a1, c1, w1, hap, hrow, hgr⟩ := run_append_is _ w.heap.size _ [] (empty_i w w.heap.size (Nat.le_refl _)) _ n c L h1 (by simp; omega) (by simp)
  simp only [List.length_nil, Nat.zero_add, List.nil_append] at hap hrow
  have HAP : Hid _ := hap
  have HR : Hid _ := hrow
  have HB1 : Hid (Below w.heap.size w w1) := (below1 _ _).grown hgr (by simp) (fun q hq => (World.ownsRow.lt (empty_i w w.heap.size (Nat.le_refl _)) q hq).1)
  clear h h1 hap hrow hgr
  have heq : ∀ W : World, (binOp .eql 22 (.slice (some ⟨g, off, none⟩) n c) (.slice none 0 0)).run Try.prog W = .ok (.bool false) W := fun W => by
    simp only [binOp]
    simp [run_equal_slice_nil W 22 3 (some ⟨g, off, none⟩) n c Try.underlying22]
  go_enter Try.func12, Try.ntmps12
  go_wp2_with (first
    | (at_builtin; refine wpList_append_run rfl _ _ 22 rfl _ _ rfl rfl _ HAP.out ?_)
    | fail)
  go_ret
  exact ⟨_, _, rfl, HR.out, HB1.out⟩
/-- Counts as they may be. -/
def okL (L : List Int) : Bool := decide (1 ≤ L.length) && decide (L.length ≤ 1048576) && !(L.any wrongB)
theorem Cnt.of {L : List Int} (h : okL L = true) : Cnt L := by
  simp only [okL, Bool.and_eq_true, decide_eq_true_eq, Bool.not_eq_true', List.any_eq_false] at h
  obtain ⟨⟨h1, h2⟩, h3⟩ := h
  refine ⟨h1, h2, fun x hx => ?_⟩
  have := h3 x hx
  simp only [wrongB, Bool.or_eq_true, decide_eq_true_eq, not_or] at this
  omega
theorem Cnt.ok {L : List Int} (h : Cnt L) : okL L = true := by
  simp only [okL, Bool.and_eq_true, decide_eq_true_eq, Bool.not_eq_true', List.any_eq_false]
  refine ⟨⟨h.one, h.few⟩, fun x hx => ?_⟩
  have := h.each x hx
  simp only [wrongB, Bool.or_eq_true, decide_eq_true_eq, not_or]
  omega
theorem of_no (a : Option Addr) (n c : Nat) (L : List Int) (w : World) (h : IS w a n L) (hL : okL L = false) :
    Calls Try.prog 5 #[.slice a n c] w fun e w' => e = .returned (.tuple #[.pointer none, .int .i64 1]) ∧ w' = w := by
  have H : Hid _ := h
  have hl := h.len
  clear h
  go_enter Try.func5, Try.ntmps5
  rcases (by omega : n = 0 ∨ 1048576 < n ∨ 1 ≤ n ∧ n ≤ 1048576) with rfl | hn | ⟨hn, hn'⟩
  · go_wp2
    go_ret2
    exact ⟨rfl, rfl⟩
  · go_wp2
    go_ret2
    exact ⟨rfl, rfl⟩
  · have hw : L.any wrongB = true := by
      rw [okL, hl, decide_eq_true hn, decide_eq_true hn'] at hL
      simpa using hL
    go_wp2_with fail
    refine (contains_any _ _ _ L _ hn' H.out).mono ?_
    rintro e W ⟨rfl, rfl⟩
    rw [hw]
    go_wp2
    go_ret2
    exact ⟨rfl, rfl⟩
theorem of_yes (a : Option Addr) (n c : Nat) (L : List Int) (w : World) (h : IS w a n L) (hL : Cnt L) :
    Calls Try.prog 5 #[.slice a n c] w fun e w' => ∃ b a' c', e = .returned (.tuple #[.pointer (some ⟨b, 0, none⟩), .int .i64 0]) ∧ PR w' b a' n c' L ∧ Below w.heap.size w w' := by
  have H : Hid _ := h
  have hl := h.len
  have hn : 1 ≤ n := by have := hL.one; omega
  have hn' : n ≤ 1048576 := by have := hL.few; omega
  have hw : L.any wrongB = false := by
    have := hL.ok
    rw [okL, hl, decide_eq_true hn, decide_eq_true hn'] at this
    simpa using this
  obtain ⟨g, off, rfl⟩ : ∃ g off, a = some ⟨g, off, none⟩ := by
    rcases h.cells with h0 | ⟨b, off, e, _⟩
    · omega
    · exact ⟨b, off, e⟩
  clear h hL
  go_enter Try.func5, Try.ntmps5
  go_wp2_with fail
  refine (contains_any _ _ _ L _ hn' H.out).mono ?_
  rintro e W ⟨rfl, rfl⟩
  rw [hw]
  go_wp2_with fail
  refine (clone_any _ _ _ _ L _ hn' H.out).mono ?_
  rintro e W1 ⟨a', c', rfl, hrow, hb⟩
  have HR : Hid _ := hrow
  have HB : Hid _ := hb
  clear hrow hb
  go_wp2
  go_ret2
  obtain ⟨his, hle⟩ := own_is HR.out
  exact ⟨_, _, _, rfl, ⟨cell_row (heap_alloc_new _ _) 0, hle, his.below (below1 _ _)⟩, HB.out.trans ((below1 _ _).mono HB.out.size)⟩
end Go.Proofs.Ythefgplobhmfcab
