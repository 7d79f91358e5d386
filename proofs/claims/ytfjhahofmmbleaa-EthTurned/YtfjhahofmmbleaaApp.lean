/- What appendNumber of package eth does to a row of the call itself: the bytes of a number are appended. Conditions: at most a million bytes lie there, and at most eight are appended. -/
import Derived.Test.YtfjhahofmmbleaaRHead
import Derived.Maps.AppendAt

namespace Go.Proofs.Ytfjhahofmmbleaa
open Go.RowKit

theorem run_append_bsa {P : Program} (w : World) (base : Nat) (t ty e : TypeId) (i : TypeInfo) (ht : P.underlying t = some (.slice e)) (hi : P.info? e = some i) (hz : i.zero = some (.int .u8 0)) (hsize : i.size = 1) (hby : i.bytes = 1)
    (v : Value) (n : Nat) (xs : List Int) (hown : w.ownsRow base e 1 v n (xs.map (Value.int .u8))) {a : Option Addr} {m : Nat} {zs : List Int} (c : Nat) (hbs : BS w a m zs)
    (hsum : n + m ≤ 140737488355328) (hbase : base ≤ w.heap.size) :
    ∃ v' w', (Builtin.append_ #[t, t] ty #[v, .slice a m c]).run P w = .ok v' w' ∧ w'.ownsRow base e 1 v' (n + m) ((xs ++ zs).map (Value.int .u8)) ∧ w.grownBy w' v.ownBlock ∧ (v'.ownBlock = v.ownBlock ∨ v'.ownBlock = some w.heap.size) := by
  have hml : n + m ≤ maxLen := by unfold maxLen; omega
  rcases a with _ | ad
  · have hm0 : m = 0 := by
      rcases hbs.cells with h | ⟨b, off, h, _⟩
      · exact h
      · cases h
    subst hm0
    have hz0 : zs = [] := List.length_eq_zero_iff.1 hbs.len
    subst hz0
    refine ⟨v, w, run_append_none w base t ty e i 1 ht hi v n c _ hown, by simpa using hown, World.grownBy.refl _ _, .inl rfl⟩
  · obtain ⟨v', w', h1, h2, h3, _, h5⟩ := run_append_own_at (P := P) w base t ty e i (.int .u8 0) 1 1 ht hi hz hsize hby rfl (by decide) v n _ hown ad m c (zs.map (Value.int .u8)) (by simp [hbs.len]) (fun j u hj => by
      obtain ⟨hjl, rfl⟩ := map_get hj
      rcases hbs.cells with h | ⟨b, off, h, hc⟩
      · have := hbs.len; omega
      · cases h
        rw [plain_add]; exact hc j hjl) (ints_oneCell _ _) hml (by omega) hbase
    exact ⟨v', w', h1, by simpa using h2, h3, h5⟩

/-- append of readable bytes to a row of bytes of the call's own, as an operation of a list; where the new row lies. -/
theorem wpList_append_bsa {P : Program} {w : World} {ops : Array Oper} {rest : List Oper} {o : Oper} {act : Act} {Q : Exit → Act → World → Prop} (hw : Region.wanted o (yielded ops act.tmps) = true) (s x : Operand) (t : TypeId)
    (ho : o.op = .call { callee := .builtin .append, args := #[s, x], argTypes := #[t, t] })
    (base : Nat) (e : TypeId) (i : TypeInfo) (ht : P.underlying t = some (.slice e)) (hi : P.info? e = some i) (hz : i.zero = some (.int .u8 0)) (hsize : i.size = 1) (hby : i.bytes = 1)
    (v : Value) (n : Nat) (xs : List Int) (hs : act.eval s = v) (hown : w.ownsRow base e 1 v n (xs.map (Value.int .u8)))
    (a : Option Addr) (m c : Nat) (zs : List Int) (hx : act.eval x = .slice a m c) (hbs : BS w a m zs) (hsum : n + m ≤ 140737488355328) (hbase : base ≤ w.heap.size)
    (h : ∀ a' cap' w', w'.ownsRow base e 1 (.slice a' (n + m) cap') (n + m) ((xs ++ zs).map (Value.int .u8)) → w.grownBy w' v.ownBlock → ((Value.slice a' (n + m) cap').ownBlock = v.ownBlock ∨ (Value.slice a' (n + m) cap').ownBlock = some w.heap.size) → wpList P ops Q rest (act.put o.dst (.slice a' (n + m) cap')) w') : wpList P ops Q (o :: rest) act w := by
  refine BigFrame.wpList_want hw fun K hK => ?_
  obtain ⟨v', w', hr, h2, h3, h4⟩ := run_append_bsa (P := P) w base t o.type e i ht hi hz hsize hby v n xs hown c hbs hsum hbase
  obtain ⟨a', cap', rfl, _⟩ := own_form h2
  unfold Oper.wp execOp
  simp only [ho, resolve, invoke, builtin, Sem.run_bind, Sem.run_pure, Result.andThen_ok, List.map_toArray, List.map_cons, List.map_nil, hs, hx, hr]
  exact hK _ _ (h a' cap' w' h2 h3 h4)

theorem grown_trans {w w1 w2 : World} {r r1 : Option Nat} (h : w.grownBy w1 r) (h1 : w1.grownBy w2 r1) (hr : r1 = r ∨ ∀ k, r1 = some k → w.heap.size ≤ k) : w.grownBy w2 r :=
  ⟨h1.os.trans h.os, h1.tape.trans h.tape, h1.output.trans h.output, Nat.le_trans h.size h1.size, fun k hk hne => by
    rw [h1.block k (Nat.lt_of_lt_of_le hk h.size) (by
      rcases hr with rfl | hr
      · exact hne
      · intro e; have := hr k e.symm; omega)]
    exact h.block k hk hne⟩

theorem bs_one (w : World) (x : Int) (B : Nat) (hB : B = w.heap.size) (hx : 0 ≤ x ∧ x ≤ 255) :
    BS (w.alloc (.cells #[.int .u8 x] 5)) (some ⟨B, 0, none⟩) 1 [x] := by
  refine bs_new 5 w _ [x] 1 B hB rfl rfl ?_ (by omega)
  simp [hx]

/-- A number's bytes, the highest first. -/
def be (v : Int) : Nat → List Int
  | 0 => []
  | s + 1 => (v / 2 ^ (8 * s) % 256) :: be v s

/-- What holds of a row of bytes that grows: where it lay when the call began, and where it lies. -/
structure Row (base : Nat) (W w' : World) (v0 v : Value) (n : Nat) (xs : List Int) : Prop where
  own : w'.ownsRow base 5 1 v n (xs.map (Value.int .u8))
  grown : W.grownBy w' v0.ownBlock
  where_ : v.ownBlock = v0.ownBlock ∨ ∀ k, v.ownBlock = some k → W.heap.size ≤ k

theorem Row.step {base : Nat} {W wr w1 : World} {v0 v v' : Value} {n m : Nat} {ys zs : List Int} {o : Obj} (h : Row base W wr v0 v n ys)
    (h1 : w1.ownsRow base 5 1 v' (n + m) ((ys ++ zs).map (Value.int .u8))) (h2 : (wr.alloc o).grownBy w1 v.ownBlock) (h3 : v'.ownBlock = v.ownBlock ∨ v'.ownBlock = some (wr.heap.size + 1)) : Row base W w1 v0 v' (n + m) (ys ++ zs) := by
  refine ⟨h1, grown_trans h.grown (grown_trans (World.grownBy_alloc wr o v.ownBlock) h2 (.inl rfl)) h.where_, ?_⟩
  rcases h3 with h3 | h3
  · rw [h3]; exact h.where_
  · refine .inr fun k hk => ?_
    rw [h3] at hk
    cases hk
    have := h.grown.size
    omega

theorem Row.refl {base : Nat} {W : World} {v : Value} {n : Nat} {xs : List Int} (h : W.ownsRow base 5 1 v n (xs.map (Value.int .u8))) : Row base W W v v n xs := ⟨h, World.grownBy.refl _ _, .inl rfl⟩

theorem be_bd (v : Int) (s : Nat) : ∀ i, 0 ≤ (be v s).getD i 0 ∧ (be v s).getD i 0 ≤ 255 := by
  induction s with
  | zero => intro i; simp [be]
  | succ s ih =>
    intro i
    match i with
    | 0 => simp only [be, List.getD_cons_zero]; omega
    | i + 1 => simpa [be] using ih i
theorem be_len (v : Int) (s : Nat) : (be v s).length = s := by
  induction s with
  | zero => rfl
  | succ s ih => simp [be, ih]

set_option maxHeartbeats 1000000 in
theorem appendNumber_any (base : Nat) (W : World) (a : Option Addr) (n cap : Nat) (xs : List Int) (hown : W.ownsRow base 5 1 (.slice a n cap) n (xs.map (Value.int .u8))) (hbase : base ≤ W.heap.size) (hn : n ≤ 1000000) (v : Int) (_hv : 0 ≤ v ∧ v ≤ 18446744073709551615) (s : Nat) (hs : s ≤ 8) :
    Calls Try.prog 23 #[.slice a n cap, .int .u64 v, .int .i64 s] W fun e w' => ∃ a' cap', e = .returned (.slice a' (n + s) cap') ∧ Row base W w' (.slice a n cap) (.slice a' (n + s) cap') (n + s) (xs ++ be v s) := by
  obtain ⟨i0, hi, hz0, hz1, hz2⟩ := info_parts info5
  have HO : Hid _ := hown
  clear hown
  go_enter Try.func23, Try.ntmps23
  go_wp2
  go_loopw [0, 2] (fun o r wr => ∃ (k : Nat) (j : Nat) (ys : List Int) (a' : Option Addr) (cap' : Nat), r = .int .i64 k ∧ k + j = s ∧ o = .slice a' (n + j) cap' ∧ Hid (ys ++ be v k = xs ++ be v s) ∧ Hid (Row base W wr (.slice a n cap) (.slice a' (n + j) cap') (n + j) ys)) (fun _ r _ => (intOf r).toNat)
  case atStart => exact ⟨s, 0, xs, a, cap, rfl, by omega, rfl, rfl, Row.refl HO.out⟩
  case round =>
    obtain ⟨k, j, ys, a', cap', rfl, hkj, rfl, hys, hrow⟩ := hrel
    by_cases hk : k = 0
    · subst hk
      obtain rfl : j = s := by omega
      go_wp2
      go_ret
      refine ⟨a', cap', rfl, ?_⟩
      have := hys.out
      simp only [be, List.append_nil] at this
      rw [← this]
      exact hrow.out
    · obtain ⟨r, rfl⟩ : ∃ r, k = r + 1 := ⟨k - 1, by omega⟩
      have hr : (r : Int) ≤ 7 := by omega
      have hbs : Hid (base ≤ wr.heap.size) := Nat.le_trans hbase hrow.out.grown.size
      have hj : n + j + 1 ≤ 140737488355328 := by omega
      go_wp2_with (at_builtin; refine wpList_append_bsa (by rfl) (.tmp 11) (.tmp 17) 22 rfl base 5 i0 Try.underlying22 hi hz0 hz1 hz2 _ (n + j) ys rfl (hrow.out.own.alloc _) (some ⟨wr.heap.size, 0, none⟩) 1 1 [v / 2 ^ (8 * r) % 256] rfl (bs_one wr _ _ rfl (by omega)) hj (by have := hbs.out; simp; omega) ?_)
      intro a2 cap2 w1 h1 h2 h3
      have hrow2 : Hid (Row base W w1 (.slice a n cap) (.slice a2 (n + j + 1) cap2) (n + j + 1) (ys ++ [v / 2 ^ (8 * r) % 256])) := hrow.out.step (by simpa using h1) h2 h3
      clear h1 h2 h3
      go_wp2
      go_roundw
      case rel => exact ⟨r, j + 1, ys ++ [v / 2 ^ (8 * r) % 256], a2, cap2, rfl, by omega, rfl, by show _ = _; rw [← hys.out]; simp [be], hrow2⟩
      case measure => simp [intOf]
end Go.Proofs.Ytfjhahofmmbleaa
