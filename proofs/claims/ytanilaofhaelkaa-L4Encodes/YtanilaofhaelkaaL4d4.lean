/- More laws of a row under way: texts, draws, appends outside of drawn regions. No condition. -/
import Derived.Test.YtanilaofhaelkaaL4d2
namespace Go.Proofs.Ytanilaofhaelkaa
open Go.RowKit Go.Lib
theorem UR.drew {z : Option Nat} {w1 W : World} {v : Value} {n : Nat} {xs : List Int} (h : UR z w1 W v n xs) : UR z w1 W.drew v n xs := ⟨h.rb.drew, ⟨h.zr.bel.drew, h.zr.at0⟩, h.ap⟩
theorem wpList_append_ur {P : Program} (hP : P.underlying 23 = some (.slice 5)) (hi5 : (P.info? 5).map (fun i => (i.zero, i.size, i.bytes)) = some (some (.int .u8 0), 1, 1)) {z : Option Nat} {w1 w : World} {ops : Array Oper} {rest : List Oper} {o : Oper} {act : Act} {Q : Exit → Act → World → Prop} (hgd : o.guard = none) (s x : Operand)
    (ho : o.op = .call { callee := .builtin .append, args := #[s, x], argTypes := #[23, 23] })
    (v : Value) (n : Nat) (xs : List Int) (hs : act.eval s = v) (hr : UR z w1 w v n xs)
    (a : Option Addr) (m c : Nat) (zs : List Int) (hx : act.eval x = .slice a m c) (hbs : BS w a m zs) (hsum : n + m ≤ 140737488355328) (hn : 2 < n + m)
    (h : ∀ a' cap' w', UR z w1 w' (.slice a' (n + m) cap') (n + m) (xs ++ zs) → wpList P ops Q rest (act.put o.dst (.slice a' (n + m) cap')) w') : wpList P ops Q (o :: rest) act w := by
  have hw : Region.wanted o (yielded ops act.tmps) = true := by simp [Region.wanted, hgd]
  refine BigFrame.wpList_want hw fun K hK => ?_
  have := step_append_ur (ops := ops) (E := True) (K := K) (Q := Q) hP hi5 hgd s x ho v n xs hs hr a m c zs hx hbs hsum hn (fun a' cap' w' u => hK _ _ (h a' cap' w' u))
  rw [if_pos hw] at this
  exact this
theorem step_append_str {P : Program} {z : Option Nat} {w1 w : World} {ops : Array Oper} {o : Oper} {act : Act} {K : Act → World → Prop} {Q : Exit → Act → World → Prop} {E : Prop} (hgd : o.guard = none) (s x : Operand) (u : TypeId)
    (ho : o.op = .call { callee := .builtin .append, args := #[s, x], argTypes := #[23, u] })
    (i : TypeInfo) (ht : P.underlying 23 = some (.slice 5)) (hu : P.underlying u = some .string) (hi : P.info? 5 = some i) (hz : i.zero = some (.int .u8 0)) (hsize : i.size = 1) (hby : i.bytes = 1)
    (v : Value) (n : Nat) (xs : List Int) (hs : act.eval s = v) (hr : UR z w1 w v n xs)
    (os : List Int) (hf : ∀ i, 0 ≤ os.getD i 0 ∧ os.getD i 0 ≤ 255) (hx : act.eval x = .string (strOfNums os)) (hsum : n + os.length ≤ 140737488355328) (hn : 2 < n + os.length)
    (h : ∀ a' cap' w', UR z w1 w' (.slice a' (n + os.length) cap') (n + os.length) (xs ++ os) → K (act.put o.dst (.slice a' (n + os.length) cap')) w') :
    if Region.wanted o (yielded ops act.tmps) = true then Oper.wp P o act w K Q else E := by
  have hw : Region.wanted o (yielded ops act.tmps) = true := by simp [Region.wanted, hgd]
  rw [if_pos hw]
  have hsz := strOfNums_size os
  obtain ⟨v', w', hrun, h2, h3, _⟩ := run_append_own_string (P := P) w w1.heap.size 23 u o.type 5 i ht hu hi hz hsize hby v n _ hr.rb.own (strOfNums os) (by rw [hsz]; unfold maxLen; omega) (by rw [hsz]; omega) hr.rb.bel.size
  rw [hsz, strCells_nums hf, ← List.map_append] at h2
  obtain ⟨a', cap', rfl, _⟩ := own_form h2
  unfold Oper.wp execOp
  simp only [ho, resolve, invoke, builtin, Sem.run_bind, Sem.run_pure, Result.andThen_ok, List.map_toArray, List.map_cons, List.map_nil, hs, hx, hrun]
  exact h a' cap' w' (ur_step hr h2 h3 hn)
end Go.Proofs.Ytanilaofhaelkaa
