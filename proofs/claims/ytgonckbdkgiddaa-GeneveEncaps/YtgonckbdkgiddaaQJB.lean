/- A row of bytes under way beside a pair of bytes and a copy of an option; Bytes of three. No condition. -/
import Derived.Test.YtgonckbdkgiddaaQHE
import Derived.Deep.RegionHeld3
namespace Go.Proofs.Ytgonckbdkgiddaa
open Go.RowKit
set_option maxRecDepth 20000
theorem heap_lt9 {W : World} {b : Nat} {o : Obj} (h : W.heap[b]? = some o) : b < W.heap.size := by
  rcases Nat.lt_or_ge b W.heap.size with h1 | h1
  · exact h1
  · rw [Array.getElem?_eq_none h1] at h; cases h
theorem heap_keep9 {W : World} {b : Nat} {o : Obj} (o' : Obj) (h : W.heap[b]? = some o) : (W.alloc o').heap[b]? = some o := by
  rw [← h]
  exact (below1 W o').block b (heap_lt9 h)
/-- A row under way; where z says, the pair p q lies; at g a copy of an option. -/
structure Up (p q : Int) (z : Option Nat) (g : Nat) (C : Array Value) (w1 W : World) (v : Value) (n : Nat) (xs : List Int) : Prop where
  rb : RB w1 W v n xs
  at0 : ∀ b, z = some b → W.heap[b]? = some (.cells #[.int .u8 p, .int .u8 q] 5)
  ap : ∀ b, z = some b → v.ownBlock ≠ some b
  op : W.heap[g]? = some (.cells C 38 (0, 0))
theorem Up.alloc {p q : Int} {z : Option Nat} {g : Nat} {C : Array Value} {w1 W : World} {v : Value} {n : Nat} {xs : List Int} (h : Up p q z g C w1 W v n xs) (o : Obj) : Up p q z g C w1 (W.alloc o) v n xs :=
  ⟨⟨h.rb.own.alloc _, h.rb.bel.alloc h.rb.bel.size _⟩, fun b hb => heap_keep9 o (h.at0 b hb), h.ap, heap_keep9 o h.op⟩
theorem Up.build {p q : Int} {g : Nat} {C : Array Value} {w1 W : World} {v : Value} {n : Nat} {xs : List Int} (h : Up p q none g C w1 W v n xs) : Up p q (some W.heap.size) g C w1 (W.alloc (.cells #[.int .u8 p, .int .u8 q] 5)) v n xs := by
  refine ⟨⟨h.rb.own.alloc _, h.rb.bel.alloc h.rb.bel.size _⟩, fun b hb => ?_, fun b hb e => ?_, heap_keep9 _ h.op⟩
  · injection hb with hb; subst hb; exact heap_alloc_new W _
  · injection hb with hb
    have := (World.ownsRow.lt h.rb.own b e).2
    omega
theorem Up.bs {p q : Int} {b g : Nat} {C : Array Value} {w1 W : World} {v : Value} {n : Nat} {xs : List Int} (h : Up p q (some b) g C w1 W v n xs) (hp : 0 ≤ p ∧ p ≤ 255) (hq : 0 ≤ q ∧ q ≤ 255) : BS W (some ⟨b, 0, none⟩) 2 [p, q] := by
  have h1 := h.at0 b rfl
  refine ⟨rfl, fun i => ?_, by omega, .inr ⟨b, 0, rfl, fun i hi => ?_⟩⟩
  · rcases i with _ | _ | i
    · exact hp
    · exact hq
    · simp
  · have hi2 : i < 2 := by simpa using hi
    rcases i with _ | _ | i
    · simp [World.cell?, h1]
    · simp [World.cell?, h1]
    · omega
theorem up_step {p q : Int} {z : Option Nat} {g : Nat} {C : Array Value} {w1 W w' : World} {v v' : Value} {n m : Nat} {xs zs : List Int} (h : Up p q z g C w1 W v n xs) (h1 : w'.ownsRow w1.heap.size 5 1 v' (n + m) ((xs ++ zs).map (Value.int .u8))) (h2 : W.grownBy w' v.ownBlock) (h3 : v'.ownBlock = v.ownBlock ∨ v'.ownBlock = some W.heap.size) : Up p q z g C w1 w' v' (n + m) (xs ++ zs) := by
  refine ⟨rb_step h.rb h1 h2, fun b hb => ?_, fun b hb e => ?_, ?_⟩
  · rw [h2.block b (heap_lt9 (h.at0 b hb)) (fun e => h.ap b hb e.symm)]
    exact h.at0 b hb
  · rcases h3 with h3 | h3
    · exact h.ap b hb (h3.symm.trans e)
    · have := heap_lt9 (h.at0 b hb)
      rw [h3] at e
      injection e with e
      omega
  · rw [h2.block g (heap_lt9 h.op) (fun e => row_apartO h.rb.own h.op e.symm)]
    exact h.op
theorem step_append_up {P : Program} (hP : P.underlying 26 = some (.slice 5)) (hi5 : (P.info? 5).map (fun i => (i.zero, i.size, i.bytes)) = some (some (.int .u8 0), 1, 1)) {p q : Int} {z : Option Nat} {g : Nat} {C : Array Value} {w1 w : World} {ops : Array Oper} {o : Oper} {act : Act} {K : Act → World → Prop} {Q : Exit → Act → World → Prop} {E : Prop} (hgd : o.guard = none) (s x : Operand)
    (ho : o.op = .call { callee := .builtin .append, args := #[s, x], argTypes := #[26, 26] })
    (v : Value) (n : Nat) (xs : List Int) (hs : act.eval s = v) (hr : Up p q z g C w1 w v n xs)
    (a : Option Addr) (m c : Nat) (zs : List Int) (hx : act.eval x = .slice a m c) (hbs : BS w a m zs) (hsum : n + m ≤ 140737488355328)
    (h : ∀ a' cap' w', Up p q z g C w1 w' (.slice a' (n + m) cap') (n + m) (xs ++ zs) → K (act.put o.dst (.slice a' (n + m) cap')) w') :
    if Region.wanted o (yielded ops act.tmps) = true then Oper.wp P o act w K Q else E := by
  have hw : Region.wanted o (yielded ops act.tmps) = true := by simp [Region.wanted, hgd]
  rw [if_pos hw]
  obtain ⟨i0, hi, hz0, hz1, hz2⟩ := info_parts hi5
  obtain ⟨v', w', hrun, h2, h3, h4⟩ := run_append_bsa (P := P) w w1.heap.size 26 o.type 5 i0 hP hi hz0 hz1 hz2 v n xs hr.rb.own c hbs hsum hr.rb.bel.size
  obtain ⟨a', cap', rfl, _⟩ := own_form h2
  unfold Oper.wp execOp
  simp only [ho, resolve, invoke, builtin, Sem.run_bind, Sem.run_pure, Result.andThen_ok, List.map_toArray, List.map_cons, List.map_nil, hs, hx, hrun]
  exact h a' cap' w' (up_step hr h2 h3 h4)
theorem step_append_upstr {P : Program} (hP : P.underlying 26 = some (.slice 5)) (h9 : P.underlying 9 = some .string) (hi5 : (P.info? 5).map (fun i => (i.zero, i.size, i.bytes)) = some (some (.int .u8 0), 1, 1)) {w1 w : World} {ops : Array Oper} {o : Oper} {act : Act} {K : Act → World → Prop} {Q : Exit → Act → World → Prop} {E : Prop} (hgd : o.guard = none) (s x : Operand)
    (ho : o.op = .call { callee := .builtin .append, args := #[s, x], argTypes := #[26, 9] })
    (v : Value) (n : Nat) (xs : List Int) (hs : act.eval s = v) (hr : RB w1 w v n xs)
    (zs : List Int) (hf : Fit zs) (hx : act.eval x = .string (strOfNums zs)) (hsum : n + zs.length ≤ 140737488355328)
    (h : ∀ a' cap' w', RB w1 w' (.slice a' (n + zs.length) cap') (n + zs.length) (xs ++ zs) → K (act.put o.dst (.slice a' (n + zs.length) cap')) w') :
    if Region.wanted o (yielded ops act.tmps) = true then Oper.wp P o act w K Q else E := by
  have hw : Region.wanted o (yielded ops act.tmps) = true := by simp [Region.wanted, hgd]
  rw [if_pos hw]
  obtain ⟨i0, hi, hz0, hz1, hz2⟩ := info_parts hi5
  have hsz := strOfNums_size zs
  obtain ⟨v', w', hrun, h2, h3, _⟩ := Lib.run_append_own_string (P := P) w w1.heap.size 26 9 o.type 5 i0 hP h9 hi hz0 hz1 hz2 v n _ hr.own (strOfNums zs) (by rw [hsz]; unfold maxLen; omega) (by rw [hsz]; omega) hr.bel.size
  rw [hsz, strCells_nums hf, ← List.map_append] at h2
  obtain ⟨a', cap', rfl, _⟩ := own_form h2
  unfold Oper.wp execOp
  simp only [ho, resolve, invoke, builtin, Sem.run_bind, Sem.run_pure, Result.andThen_ok, List.map_toArray, List.map_cons, List.map_nil, hs, hx, hrun]
  exact h a' cap' w' (rb_step hr h2 h3)
set_option maxHeartbeats 1000000 in
theorem bytes3_any (x : Int) (hx : 0 ≤ x ∧ x ≤ 18446744073709551615) (w : World) :
    Calls Try.prog 21 #[.int .u64 x, .int .i64 3] w fun e w' => e = .returned (.slice (some ⟨w.heap.size, 0, none⟩) 3 3) ∧ w' = w.alloc (.cells ((be x 3).map (Value.int .u8)).toArray 5) := by
  have hmk : ∀ w, (Instr.makeSlice 26 (.int .i64 3) (.int .i64 3)).run Try.prog w = .ok (.slice (some ⟨w.heap.size, 0, none⟩) 3 3) (w.alloc (.cells #[.int .u8 0, .int .u8 0, .int .u8 0] 5)) := fun _ => by kernel_rfl
  go_enter Try.func21, Try.ntmps21
  go_wp2
  refine wp_loop_rounds 4 ?_
  rw [rounds_succ]
  go_wp2
  rw [rounds_succ]
  go_wp2
  rw [rounds_succ]
  go_wp2
  rw [rounds_succ]
  go_wp2
  go_ret
  refine ⟨rfl, ?_⟩
  have q0 : x / 2 ^ (8 * 0) = x := by rw [show (2 : Int) ^ (8 * 0) = 1 from by decide]; omega
  have q1 : x / 2 ^ (8 * 1) = x / 256 := by rw [show (2 : Int) ^ (8 * 1) = 256 from by decide]
  have q2 : x / 2 ^ (8 * 2) = x / 256 / 256 := by rw [show (2 : Int) ^ (8 * 2) = 65536 from by decide]; omega
  simp only [be, List.map_cons, List.map_nil, q0, q1, q2]
theorem made3 : MadeBy 21 3 := fun x hx w => bytes3_any x hx w
theorem crit_ge (o : Opt) (h : optG o = true) : critB o = decide (128 ≤ o.code) := by
  have h8 : 0 ≤ o.code ∧ o.code ≤ 255 := by
    unfold optG at h
    simp only [Bool.and_eq_true] at h
    exact fit8_bd h.2.1
  unfold critB
  obtain ⟨c, hc⟩ : ∃ c, o.code = c := ⟨_, rfl⟩
  rw [hc] at h8 ⊢
  obtain ⟨k, rfl⟩ := Int.eq_ofNat_of_zero_le h8.1
  have hk : k < 256 := by omega
  exact (show ∀ k : Fin 256, (bits .and .i64 ((k.val : Nat) : Int) 128 != 0) = decide (128 ≤ ((k.val : Nat) : Int)) from by decide +kernel) ⟨k, hk⟩
end Go.Proofs.Ytgonckbdkgiddaa
