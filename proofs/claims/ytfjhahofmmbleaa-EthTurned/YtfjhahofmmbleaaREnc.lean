/- What Bytes and EncodeHead of the reference answer. Condition: numbers that are not negative. -/
import Derived.Test.YtfjhahofmmbleaaEnc
import Derived.Deep.RegionHeld3
import Derived.Deep.RegionWith
import Derived.Deep.DrawnRows
import Derived.Deep.RegionLaw

namespace Go.Proofs.Ytfjhahofmmbleaa
open Go.RowKit

set_option maxHeartbeats 1000000 in
theorem bytes2_any (x : Int) (hx : 0 ≤ x ∧ x ≤ 18446744073709551615) (w : World) :
    Calls Try.prog 25 #[.int .u64 x, .int .i64 2] w fun e w' => e = .returned (.slice (some ⟨w.heap.size, 0, none⟩) 2 2) ∧ w' = w.alloc (.cells ((be x 2).map (Value.int .u8)).toArray 5) := by
  have hmk : ∀ w, (Instr.makeSlice 22 (.int .i64 2) (.int .i64 2)).run Try.prog w = .ok (.slice (some ⟨w.heap.size, 0, none⟩) 2 2) (w.alloc (.cells #[.int .u8 0, .int .u8 0] 5)) := fun _ => by kernel_rfl
  go_enter Try.func25, Try.ntmps25
  go_wp2
  refine wp_loop_rounds 3 ?_
  rw [rounds_succ]
  go_wp2
  rw [rounds_succ]
  go_wp2
  rw [rounds_succ]
  go_wp2
  go_ret
  refine ⟨rfl, ?_⟩
  have q0 : x / 2 ^ (8 * 0) = x := by rw [show (2 : Int) ^ (8 * 0) = 1 from by decide]; omega
  have q1 : x / 2 ^ (8 * 1) = x / 256 := by rw [show (2 : Int) ^ (8 * 1) = 256 from by decide]
  simp only [be, List.map_cons, List.map_nil, q0, q1]

set_option maxHeartbeats 1000000 in
theorem bytes4_any (x : Int) (hx : 0 ≤ x ∧ x ≤ 18446744073709551615) (w : World) :
    Calls Try.prog 25 #[.int .u64 x, .int .i64 4] w fun e w' => e = .returned (.slice (some ⟨w.heap.size, 0, none⟩) 4 4) ∧ w' = w.alloc (.cells ((be x 4).map (Value.int .u8)).toArray 5) := by
  have hmk : ∀ w, (Instr.makeSlice 22 (.int .i64 4) (.int .i64 4)).run Try.prog w = .ok (.slice (some ⟨w.heap.size, 0, none⟩) 4 4) (w.alloc (.cells #[.int .u8 0, .int .u8 0, .int .u8 0, .int .u8 0] 5)) := fun _ => by kernel_rfl
  go_enter Try.func25, Try.ntmps25
  go_wp2
  refine wp_loop_rounds 5 ?_
  rw [rounds_succ]
  go_wp2
  rw [rounds_succ]
  go_wp2
  rw [rounds_succ]
  go_wp2
  rw [rounds_succ]
  go_wp2
  rw [rounds_succ]
  go_wp2
  go_ret
  refine ⟨rfl, ?_⟩
  have q0 : x / 2 ^ (8 * 0) = x := by rw [show (2 : Int) ^ (8 * 0) = 1 from by decide]; omega
  have q1 : x / 2 ^ (8 * 1) = x / 256 := by rw [show (2 : Int) ^ (8 * 1) = 256 from by decide]
  have q2 : x / 2 ^ (8 * 2) = x / 256 / 256 := by rw [show (2 : Int) ^ (8 * 2) = 65536 from by decide]; omega
  have q3 : x / 2 ^ (8 * 3) = x / 256 / 256 / 256 := by rw [show (2 : Int) ^ (8 * 3) = 16777216 from by decide]; omega
  simp only [be, List.map_cons, List.map_nil, q0, q1, q2, q3]

set_option maxHeartbeats 1000000 in
theorem bytes6_any (x : Int) (hx : 0 ≤ x ∧ x ≤ 18446744073709551615) (w : World) :
    Calls Try.prog 25 #[.int .u64 x, .int .i64 6] w fun e w' => e = .returned (.slice (some ⟨w.heap.size, 0, none⟩) 6 6) ∧ w' = w.alloc (.cells ((be x 6).map (Value.int .u8)).toArray 5) := by
  have hmk : ∀ w, (Instr.makeSlice 22 (.int .i64 6) (.int .i64 6)).run Try.prog w = .ok (.slice (some ⟨w.heap.size, 0, none⟩) 6 6) (w.alloc (.cells #[.int .u8 0, .int .u8 0, .int .u8 0, .int .u8 0, .int .u8 0, .int .u8 0] 5)) := fun _ => by kernel_rfl
  go_enter Try.func25, Try.ntmps25
  go_wp2
  refine wp_loop_rounds 7 ?_
  rw [rounds_succ]
  go_wp2
  rw [rounds_succ]
  go_wp2
  rw [rounds_succ]
  go_wp2
  rw [rounds_succ]
  go_wp2
  rw [rounds_succ]
  go_wp2
  rw [rounds_succ]
  go_wp2
  rw [rounds_succ]
  go_wp2
  go_ret
  refine ⟨rfl, ?_⟩
  have q0 : x / 2 ^ (8 * 0) = x := by rw [show (2 : Int) ^ (8 * 0) = 1 from by decide]; omega
  have q1 : x / 2 ^ (8 * 1) = x / 256 := by rw [show (2 : Int) ^ (8 * 1) = 256 from by decide]
  have q2 : x / 2 ^ (8 * 2) = x / 256 / 256 := by rw [show (2 : Int) ^ (8 * 2) = 65536 from by decide]; omega
  have q3 : x / 2 ^ (8 * 3) = x / 256 / 256 / 256 := by rw [show (2 : Int) ^ (8 * 3) = 16777216 from by decide]; omega
  have q4 : x / 2 ^ (8 * 4) = x / 256 / 256 / 256 / 256 := by rw [show (2 : Int) ^ (8 * 4) = 4294967296 from by decide]; omega
  have q5 : x / 2 ^ (8 * 5) = x / 256 / 256 / 256 / 256 / 256 := by rw [show (2 : Int) ^ (8 * 5) = 1099511627776 from by decide]; omega
  simp only [be, List.map_cons, List.map_nil, q0, q1, q2, q3, q4, q5]


/-- The row that Bytes makes. -/
theorem own_made (w : World) (base n : Nat) (x : Int) (hb : base ≤ w.heap.size) (hn : n ≤ 1000000) : (w.alloc (.cells ((be x n).map (Value.int .u8)).toArray 5)).ownsRow base 5 1 (.slice (some ⟨w.heap.size, 0, none⟩) n n) n ((be x n).map (Value.int .u8)) := by
  have := World.ownsRow_lit (base := base) (e := 5) (size := 1) w ((be x n).map (Value.int .u8)).toArray n hb (by unfold maxLen; omega) (by simp [be_len])
  simpa using this

theorem bs_two (w : World) (x y : Int) (B : Nat) (hB : B = w.heap.size) (hx : 0 ≤ x ∧ x ≤ 255) (hy : 0 ≤ y ∧ y ≤ 255) :
    BS (w.alloc (.cells #[.int .u8 x, .int .u8 y] 5)) (some ⟨B, 0, none⟩) 2 [x, y] := by
  refine bs_new 5 w _ [x, y] 2 B hB rfl rfl ?_ (by omega)
  simp [hx, hy]

/-- A row of bytes of the call's own, over a world that has only grown since w1. -/
structure RB (w1 W : World) (v : Value) (n : Nat) (xs : List Int) : Prop where
  own : W.ownsRow w1.heap.size 5 1 v n (xs.map (Value.int .u8))
  bel : Below w1.heap.size w1 W

def MadeBy (f : Nat) (m : Int) : Prop := ∀ (x : Int), 0 ≤ x ∧ x ≤ 18446744073709551615 → ∀ w : World, Calls Try.prog f #[.int .u64 x, .int .i64 m] w fun e w' => e = .returned (.slice (some ⟨w.heap.size, 0, none⟩) m.toNat m.toNat) ∧ w' = w.alloc (.cells ((be x m.toNat).map (Value.int .u8)).toArray 5)
theorem made2 : MadeBy 25 2 := fun x hx w => bytes2_any x hx w
theorem made4 : MadeBy 25 4 := fun x hx w => bytes4_any x hx w
theorem made6 : MadeBy 25 6 := fun x hx w => bytes6_any x hx w

theorem bytes_first {f : Nat} {m : Int} (hm : MadeBy f m) (hm6 : m ≤ 6) {w1 W : World} (hb : Below w1.heap.size w1 W) (x : Int) (hx : 0 ≤ x ∧ x ≤ 18446744073709551615) :
    Calls Try.prog f #[.int .u64 x, .int .i64 m] W fun e w' => ∃ a, e = .returned (.slice a m.toNat m.toNat) ∧ RB w1 w' (.slice a m.toNat m.toNat) m.toNat (be x m.toNat) := by
  refine (hm x hx W).mono ?_
  rintro e w' ⟨rfl, rfl⟩
  exact ⟨_, rfl, own_made W _ _ x hb.size (by omega), hb.alloc hb.size _⟩

theorem bytes_next {f : Nat} {m : Int} (hm : MadeBy f m) (hm6 : m ≤ 6) {w1 W : World} {v : Value} {n : Nat} {xs : List Int} (h : RB w1 W v n xs) (x : Int) (hx : 0 ≤ x ∧ x ≤ 18446744073709551615) :
    Calls Try.prog f #[.int .u64 x, .int .i64 m] W fun e w' => ∃ a, e = .returned (.slice a m.toNat m.toNat) ∧ RB w1 w' v n xs ∧ BS w' a m.toNat (be x m.toNat) := by
  refine (hm x hx W).mono ?_
  rintro e w' ⟨rfl, rfl⟩
  refine ⟨_, rfl, ⟨h.own.alloc _, h.bel.alloc h.bel.size _⟩, ?_⟩
  exact own_bs (own_made W _ _ x (Nat.le_refl _) (by omega)) (be_bd _ _) (by omega)

theorem rb_step {w1 W w' : World} {v v' : Value} {n m : Nat} {xs zs : List Int} (h : RB w1 W v n xs) (h1 : w'.ownsRow w1.heap.size 5 1 v' (n + m) ((xs ++ zs).map (Value.int .u8))) (h2 : W.grownBy w' v.ownBlock) : RB w1 w' v' (n + m) (xs ++ zs) :=
  ⟨h1, h.bel.grown h2 h.bel.size (fun k hk => (World.ownsRow.lt h.own k hk).1)⟩

theorem wp_append_rb {P : Program} (hP : P.underlying 22 = some (.slice 5)) (hi5 : (P.info? 5).map (fun i => (i.zero, i.size, i.bytes)) = some (some (.int .u8 0), 1, 1)) {w1 w : World} {o : Oper} {act : Act} {K : Act → World → Prop} {Q : Exit → Act → World → Prop} (s x : Operand)
    (ho : o.op = .call { callee := .builtin .append, args := #[s, x], argTypes := #[22, 22] })
    (v : Value) (n : Nat) (xs : List Int) (hs : act.eval s = v) (hr : RB w1 w v n xs)
    (a : Option Addr) (m c : Nat) (zs : List Int) (hx : act.eval x = .slice a m c) (hbs : BS w a m zs) (hsum : n + m ≤ 140737488355328)
    (h : ∀ a' cap' w', RB w1 w' (.slice a' (n + m) cap') (n + m) (xs ++ zs) → K (act.put o.dst (.slice a' (n + m) cap')) w') : o.wp P act w K Q := by
  obtain ⟨i0, hi, hz0, hz1, hz2⟩ := info_parts hi5
  obtain ⟨v', w', hrun, h2, h3⟩ := run_append_bs (P := P) w w1.heap.size 22 o.type 5 i0 hP hi hz0 hz1 hz2 v n xs hr.own c hbs hsum hr.bel.size
  obtain ⟨a', cap', rfl, _⟩ := own_form h2
  unfold Oper.wp execOp
  simp only [ho, resolve, invoke, builtin, Sem.run_bind, Sem.run_pure, Result.andThen_ok, List.map_toArray, List.map_cons, List.map_nil, hs, hx, hrun]
  exact h a' cap' w' (rb_step hr h2 h3)

theorem wpList_append_rb {P : Program} (hP : P.underlying 22 = some (.slice 5)) (hi5 : (P.info? 5).map (fun i => (i.zero, i.size, i.bytes)) = some (some (.int .u8 0), 1, 1)) {w1 w : World} {ops : Array Oper} {rest : List Oper} {o : Oper} {act : Act} {Q : Exit → Act → World → Prop} (hw : Region.wanted o (yielded ops act.tmps) = true) (s x : Operand)
    (ho : o.op = .call { callee := .builtin .append, args := #[s, x], argTypes := #[22, 22] })
    (v : Value) (n : Nat) (xs : List Int) (hs : act.eval s = v) (hr : RB w1 w v n xs)
    (a : Option Addr) (m c : Nat) (zs : List Int) (hx : act.eval x = .slice a m c) (hbs : BS w a m zs) (hsum : n + m ≤ 140737488355328)
    (h : ∀ a' cap' w', RB w1 w' (.slice a' (n + m) cap') (n + m) (xs ++ zs) → wpList P ops Q rest (act.put o.dst (.slice a' (n + m) cap')) w') : wpList P ops Q (o :: rest) act w :=
  BigFrame.wpList_want hw fun _ hK => wp_append_rb hP hi5 s x ho v n xs hs hr a m c zs hx hbs hsum fun a' cap' w' h2 => hK _ _ (h a' cap' w' h2)

theorem step_append_rb {P : Program} (hP : P.underlying 22 = some (.slice 5)) (hi5 : (P.info? 5).map (fun i => (i.zero, i.size, i.bytes)) = some (some (.int .u8 0), 1, 1)) {w1 w : World} {ops : Array Oper} {o : Oper} {act : Act} {K : Act → World → Prop} {Q : Exit → Act → World → Prop} {E : Prop} (hgd : o.guard = none) (s x : Operand)
    (ho : o.op = .call { callee := .builtin .append, args := #[s, x], argTypes := #[22, 22] })
    (v : Value) (n : Nat) (xs : List Int) (hs : act.eval s = v) (hr : RB w1 w v n xs)
    (a : Option Addr) (m c : Nat) (zs : List Int) (hx : act.eval x = .slice a m c) (hbs : BS w a m zs) (hsum : n + m ≤ 140737488355328)
    (h : ∀ a' cap' w', RB w1 w' (.slice a' (n + m) cap') (n + m) (xs ++ zs) → K (act.put o.dst (.slice a' (n + m) cap')) w') :
    if Region.wanted o (yielded ops act.tmps) = true then Oper.wp P o act w K Q else E := by
  have hw : Region.wanted o (yielded ops act.tmps) = true := by simp [Region.wanted, hgd]
  rw [if_pos hw]
  exact wp_append_rb hP hi5 s x ho v n xs hs hr a m c zs hx hbs hsum h

theorem RB.drew {w1 W : World} {v : Value} {n : Nat} {xs : List Int} (h : RB w1 W v n xs) : RB w1 W.drew v n xs := ⟨h.own, h.bel.drew⟩
theorem RB.bs {w1 W : World} {a : Option Addr} {n cap : Nat} {xs : List Int} (h : RB w1 W (.slice a n cap) n xs) (hf : ∀ i, 0 ≤ xs.getD i 0 ∧ xs.getD i 0 ≤ 255) (hr : n ≤ 140737488355328) : BS W a n xs := own_bs h.own hf hr

attribute [local go_sem ↓] Go.wp_at_zero Go.wp_at_succ

set_option maxHeartbeats 2000000 in
theorem rencode_plain (d s : Int) (tag ty : Int) (w : World) (hd : 0 ≤ d) (hs : 0 ≤ s) (h : fitsB d s false tag ty = true) :
    Calls Try.prog 12 #[.agg #[.int .u64 d, .int .u64 s, .bool false, .int .i64 tag, .int .i64 ty]] w fun e w' => ∃ a cap, e = .returned (.tuple #[.slice a (headBytes d s false tag ty).length cap, .int .i64 0]) ∧ BS w' a (headBytes d s false tag ty).length (headBytes d s false tag ty) ∧ Below w.heap.size w w' := by
  have hfit := h
  simp only [fitsB, Bool.and_eq_true, decide_eq_true_eq] at hfit
  obtain ⟨⟨⟨⟨⟨f1, f2⟩, f3⟩, f4⟩, f5⟩, f6⟩ := hfit
  have f3' := wordB_yes f3
  have f4' := wordB_yes f4
  have f5' : (ty == 33024) = false := by simpa using f5
  have f6' : (tag != 0) = false := by simpa using f6
  have g1 : ¬ 281474976710656 ≤ d := by omega
  have g2 : ¬ 281474976710656 ≤ s := by omega
  clear f5 f6 h
  go_enter Try.func12, Try.ntmps12
  go_wp2_with (go_at_call 24; refine (sixteen_any _ _).mono ?_; rintro e w' ⟨rfl, rfl⟩)
  clear f3 f4 f5' f6' g1 g2
  have hx0 : (w.alloc (.cells #[.int .u64 d, .int .u64 s, .bool false, .int .i64 tag, .int .i64 ty] 25)).cell? ⟨w.heap.size, 0, none⟩ = some (.int .u64 d) := by simp [go_sem]
  have hx1 : (w.alloc (.cells #[.int .u64 d, .int .u64 s, .bool false, .int .i64 tag, .int .i64 ty] 25)).cell? ⟨w.heap.size, 1, none⟩ = some (.int .u64 s) := by simp [go_sem]
  have hx2 : (w.alloc (.cells #[.int .u64 d, .int .u64 s, .bool false, .int .i64 tag, .int .i64 ty] 25)).cell? ⟨w.heap.size, 2, none⟩ = some (.bool false) := by simp [go_sem]
  have hx4 : (w.alloc (.cells #[.int .u64 d, .int .u64 s, .bool false, .int .i64 tag, .int .i64 ty] 25)).cell? ⟨w.heap.size, 4, none⟩ = some (.int .i64 ty) := by simp [go_sem]
  have hbw := below1 w (.cells #[.int .u64 d, .int .u64 s, .bool false, .int .i64 tag, .int .i64 ty] 25)
  have hlt : w.heap.size < (w.alloc (.cells #[.int .u64 d, .int .u64 s, .bool false, .int .i64 tag, .int .i64 ty] 25)).heap.size := by simp
  generalize (w.alloc (.cells #[.int .u64 d, .int .u64 s, .bool false, .int .i64 tag, .int .i64 ty] 25)) = w1 at *
  have hS := Below.refl w1.heap.size w1
  have hlt' : Hid _ := hlt
  clear hlt
  go_region_held3 (fun W => W.cell? ⟨w.heap.size, 0, none⟩ = some (.int .u64 d) ∧ W.cell? ⟨w.heap.size, 1, none⟩ = some (.int .u64 s) ∧ Below w1.heap.size w1 W)
    (first
      | (refine ⟨?_, ?_, ?_⟩ <;> assumption)
      | exact ⟨hx0, hx1, Below.drew (by assumption)⟩
      | exact ⟨hx0, hx1, by assumption⟩
      | exact ⟨((by assumption : RB w1 _ _ _ _).bel.cell hlt'.out).trans hx0, ((by assumption : RB w1 _ _ _ _).bel.cell hlt'.out).trans hx1, (by assumption : RB w1 _ _ _ _).bel⟩)
    (first
      | (go_at_call_of 25 (Value.int .u64 d); refine (bytes_first (w1 := w1) made6 (by omega) ?_ _ ?_).mono ?_; (first | exact (by assumption : _ ∧ _ ∧ Below w1.heap.size w1 _).2.2 | assumption | exact Below.drew (by assumption)); omega; rintro e W1 ⟨a1, rfl, r1⟩)
      | (go_at_call_of 25 (Value.int .u64 s); refine (bytes_next made6 (by omega) r1 _ ?_).mono ?_; omega; rintro e W2 ⟨a2, rfl, r2, b2⟩)
      | (refine step_append_rb Try.underlying22 info5 ?_ (.tmp 42) (.tmp 45) ?_ _ _ _ ?_ r2 _ _ 6 _ ?_ b2 ?_ ?_; rfl; rfl; rfl; rfl; simp; intro a3 c3 W3 r3)
      | fail)
  have hy2 := (r3.bel.cell hlt'.out).trans hx2
  have hy4 := (r3.bel.cell hlt'.out).trans hx4
  have R3 : Hid _ := r3
  clear r1 r2 r3 b2 hx0 hx1 hx2 hx4 hS
  go_wp2_with (first
    | (go_at_call 25; refine (bytes_next made2 (by omega) R3.out _ ?_).mono ?_; omega; rintro e W4 ⟨a4, rfl, r4, b4⟩)
    | (at_builtin; refine wpList_append_rb Try.underlying22 info5 ?_ (.tmp 57) (.tmp 61) ?_ _ _ _ ?_ r4 _ _ 2 _ ?_ b4 ?_ ?_; rfl; rfl; rfl; rfl; simp; intro a5 c5 W5 r5)
    | fail)
  have hlen : (headBytes d s false tag ty).length = 14 := by simp [headBytes, be_len]
  have hbs : BS W5 a5 14 (headBytes d s false tag ty) := by
    have := own_bs (n := 14) (by simpa using r5.own) (fits_append (fits_append (be_bd d 6) (be_bd s 6)) (be_bd ty 2)) (by omega)
    simpa [headBytes] using this
  go_ret2
  rw [hlen]
  exact ⟨a5, c5, rfl, hbs, hbw.trans (r5.bel.mono (Nat.le_of_lt hlt'.out))⟩

set_option maxHeartbeats 2000000 in
theorem rencode_tagged (d s : Int) (tag ty : Int) (w : World) (hd : 0 ≤ d) (hs : 0 ≤ s) (h : fitsB d s true tag ty = true) :
    Calls Try.prog 12 #[.agg #[.int .u64 d, .int .u64 s, .bool true, .int .i64 tag, .int .i64 ty]] w fun e w' => ∃ a cap, e = .returned (.tuple #[.slice a (headBytes d s true tag ty).length cap, .int .i64 0]) ∧ BS w' a (headBytes d s true tag ty).length (headBytes d s true tag ty) ∧ Below w.heap.size w w' := by
  have hfit := h
  simp only [fitsB, Bool.and_eq_true, decide_eq_true_eq] at hfit
  obtain ⟨⟨⟨⟨⟨f1, f2⟩, f3⟩, f4⟩, f5⟩, f6⟩ := hfit
  have f3' := wordB_yes f3
  have f4' := wordB_yes f4
  have f5' : (ty == 33024) = false := by simpa using f5
  have g1 : ¬ 281474976710656 ≤ d := by omega
  have g2 : ¬ 281474976710656 ≤ s := by omega
  clear f5 f6 h
  go_enter Try.func12, Try.ntmps12
  go_wp2_with (go_at_call 24; refine (sixteen_any _ _).mono ?_; rintro e w' ⟨rfl, rfl⟩)
  clear f3 f4 f5' g1 g2
  have hx0 : (w.alloc (.cells #[.int .u64 d, .int .u64 s, .bool true, .int .i64 tag, .int .i64 ty] 25)).cell? ⟨w.heap.size, 0, none⟩ = some (.int .u64 d) := by simp [go_sem]
  have hx1 : (w.alloc (.cells #[.int .u64 d, .int .u64 s, .bool true, .int .i64 tag, .int .i64 ty] 25)).cell? ⟨w.heap.size, 1, none⟩ = some (.int .u64 s) := by simp [go_sem]
  have hx2 : (w.alloc (.cells #[.int .u64 d, .int .u64 s, .bool true, .int .i64 tag, .int .i64 ty] 25)).cell? ⟨w.heap.size, 2, none⟩ = some (.bool true) := by simp [go_sem]
  have hx3 : (w.alloc (.cells #[.int .u64 d, .int .u64 s, .bool true, .int .i64 tag, .int .i64 ty] 25)).cell? ⟨w.heap.size, 3, none⟩ = some (.int .i64 tag) := by simp [go_sem]
  have hx4 : (w.alloc (.cells #[.int .u64 d, .int .u64 s, .bool true, .int .i64 tag, .int .i64 ty] 25)).cell? ⟨w.heap.size, 4, none⟩ = some (.int .i64 ty) := by simp [go_sem]
  have hbw := below1 w (.cells #[.int .u64 d, .int .u64 s, .bool true, .int .i64 tag, .int .i64 ty] 25)
  have hlt : w.heap.size < (w.alloc (.cells #[.int .u64 d, .int .u64 s, .bool true, .int .i64 tag, .int .i64 ty] 25)).heap.size := by simp
  generalize (w.alloc (.cells #[.int .u64 d, .int .u64 s, .bool true, .int .i64 tag, .int .i64 ty] 25)) = w1 at *
  have hS := Below.refl w1.heap.size w1
  have hlt' : Hid _ := hlt
  clear hlt
  go_region_held3 (fun W => W.cell? ⟨w.heap.size, 0, none⟩ = some (.int .u64 d) ∧ W.cell? ⟨w.heap.size, 1, none⟩ = some (.int .u64 s) ∧ Below w1.heap.size w1 W)
    (first
      | (refine ⟨?_, ?_, ?_⟩ <;> assumption)
      | exact ⟨hx0, hx1, Below.drew (by assumption)⟩
      | exact ⟨hx0, hx1, by assumption⟩
      | exact ⟨((by assumption : RB w1 _ _ _ _).bel.cell hlt'.out).trans hx0, ((by assumption : RB w1 _ _ _ _).bel.cell hlt'.out).trans hx1, (by assumption : RB w1 _ _ _ _).bel⟩)
    (first
      | (go_at_call_of 25 (Value.int .u64 d); refine (bytes_first (w1 := w1) made6 (by omega) ?_ _ ?_).mono ?_; (first | exact (by assumption : _ ∧ _ ∧ Below w1.heap.size w1 _).2.2 | assumption | exact Below.drew (by assumption)); omega; rintro e W1 ⟨a1, rfl, r1⟩)
      | (go_at_call_of 25 (Value.int .u64 s); refine (bytes_next made6 (by omega) r1 _ ?_).mono ?_; omega; rintro e W2 ⟨a2, rfl, r2, b2⟩)
      | (refine step_append_rb Try.underlying22 info5 ?_ (.tmp 42) (.tmp 45) ?_ _ _ _ ?_ r2 _ _ 6 _ ?_ b2 ?_ ?_; rfl; rfl; rfl; rfl; simp; intro a3 c3 W3 r3)
      | fail)
  have hy2 := (r3.bel.cell hlt'.out).trans hx2
  have hy3 := (r3.bel.cell hlt'.out).trans hx3
  have R3 : Hid _ := r3
  clear r1 r2 r3 b2 hx0 hx1 hx2 hS
  go_wp2
  have hwr : IntKind.u64.wrap tag = tag := by rw [IntKind.wrap_u64]; omega
  have RR : Hid (RB w1 W3 (.slice a3 12 c3) 12 (be d 6 ++ be s 6)) := R3.out
  clear R3
  go_region_held3 (fun W => W.cell? ⟨w.heap.size, 3, none⟩ = some (.int .i64 tag) ∧ Below w1.heap.size w1 W)
    (first
      | exact ⟨hy3, RR.out.bel⟩
      | exact ⟨hy3, RR.out.bel.drew⟩
      | exact ⟨((by assumption : RB w1 _ _ _ _).bel.cell hlt'.out).trans hx3, (by assumption : RB w1 _ _ _ _).bel⟩
      | exact ⟨((RR.out.bel.alloc RR.out.bel.size _).cell hlt'.out).trans hx3, (RR.out.bel.alloc RR.out.bel.size _)⟩
      | exact ⟨((RR.out.bel.alloc RR.out.bel.size _).drew.cell hlt'.out).trans hx3, (RR.out.bel.alloc RR.out.bel.size _).drew⟩)
    (first
      | (refine step_append_rb (w1 := w1) Try.underlying22 info5 ?_ (.tmp 49) (.tmp 50) ?_ (.slice a3 12 c3) 12 (be d 6 ++ be s 6) ?_ ⟨RR.out.own.alloc _, (RR.out.bel.alloc RR.out.bel.size _).drew⟩ _ _ 2 [129, 0] ?_ (bs_two _ _ _ _ rfl (by omega) (by omega)).drew ?_ ?_; rfl; rfl; rfl; rfl; omega; intro a4 c4 W4 r4)
      | (go_at_call 25; refine (bytes_next made2 (by omega) r4 _ ?_).mono ?_; omega; rintro e W5 ⟨a5, rfl, r5, b5⟩)
      | (refine step_append_rb Try.underlying22 info5 ?_ (.tmp 51) (.tmp 55) ?_ _ _ _ ?_ r5 _ _ 2 _ ?_ b5 ?_ ?_; rfl; rfl; rfl; rfl; simp; intro a6 c6 W6 r6)
      | fail)
  have hy4 := (r6.bel.cell hlt'.out).trans hx4
  have R6 : Hid _ := r6
  clear r4 r5 r6 b5 hx3 hx4 hwr
  go_wp2_with (first
    | (go_at_call 25; refine (bytes_next made2 (by omega) R6.out _ ?_).mono ?_; omega; rintro e W7 ⟨a7, rfl, r7, b7⟩)
    | (at_builtin; refine wpList_append_rb Try.underlying22 info5 ?_ (.tmp 57) (.tmp 61) ?_ _ _ _ ?_ r7 _ _ 2 _ ?_ b7 ?_ ?_; rfl; rfl; rfl; rfl; simp; intro a8 c8 W8 r8)
    | fail)
  have hlen : (headBytes d s true tag ty).length = 18 := by simp [headBytes, be_len]
  have hbs : BS W8 a8 18 (headBytes d s true tag ty) := by
    have h33 : be 33024 2 = [129, 0] := by decide
    have := own_bs (n := 18) (by simpa using r8.own) (fits_append (fits_append (fits_append (fits_append (be_bd d 6) (be_bd s 6)) (fits_two (x := 129) (y := 0) (by omega) (by omega))) (be_bd tag 2)) (be_bd ty 2)) (by omega)
    simpa [headBytes, h33] using this
  go_ret2
  rw [hlen]
  exact ⟨a8, c8, rfl, hbs, hbw.trans (r8.bel.mono (Nat.le_of_lt hlt'.out))⟩

theorem rencode_no (d s : Int) (tg : Bool) (tag ty : Int) (w : World) (h : fitsB d s tg tag ty = false) :
    Calls Try.prog 12 #[.agg #[.int .u64 d, .int .u64 s, .bool tg, .int .i64 tag, .int .i64 ty]] w fun e w' => e = .returned (.tuple #[.slice none 0 0, .int .i64 1]) ∧ Below w.heap.size w w' := by
  by_cases c1 : 281474976710656 ≤ d
  · clear h
    go_enter Try.func12, Try.ntmps12
    go_wp2_with (go_at_call 24; refine (sixteen_any _ _).mono ?_; rintro e w' ⟨rfl, rfl⟩)
    go_ret2
    exact ⟨rfl, below1 w _⟩
  by_cases c2 : 281474976710656 ≤ s
  · clear h
    go_enter Try.func12, Try.ntmps12
    go_wp2_with (go_at_call 24; refine (sixteen_any _ _).mono ?_; rintro e w' ⟨rfl, rfl⟩)
    go_ret2
    exact ⟨rfl, below1 w _⟩
  cases c3 : wordB tag
  · clear h
    go_enter Try.func12, Try.ntmps12
    go_wp2_with (go_at_call 24; refine (sixteen_any _ _).mono ?_; rintro e w' ⟨rfl, rfl⟩)
    go_ret2
    exact ⟨rfl, below1 w _⟩
  cases c4 : wordB ty
  · clear h
    go_enter Try.func12, Try.ntmps12
    go_wp2_with (go_at_call 24; refine (sixteen_any _ _).mono ?_; rintro e w' ⟨rfl, rfl⟩)
    go_ret2
    exact ⟨rfl, below1 w _⟩
  have e : ((ty != 33024) && (tg || tag == 0)) = false := by
    have h1 : d ≤ 281474976710655 := by omega
    have h2 : s ≤ 281474976710655 := by omega
    rw [← h]; simp [fitsB, c3, c4, h1, h2]
  cases c5 : (ty == 33024)
  · have e2 : (tg || tag == 0) = false := by
      have : (ty != 33024) = true := by simp [bne, c5]
      rw [this] at e; simpa using e
    simp only [Bool.or_eq_false_iff] at e2
    obtain ⟨rfl, e3⟩ := e2
    have e4 : (tag != 0) = true := by simp [bne, e3]
    clear h e e3
    go_enter Try.func12, Try.ntmps12
    go_wp2_with (go_at_call 24; refine (sixteen_any _ _).mono ?_; rintro e w' ⟨rfl, rfl⟩)
    go_ret2
    exact ⟨rfl, below1 w _⟩
  · clear h e
    go_enter Try.func12, Try.ntmps12
    go_wp2_with (go_at_call 24; refine (sixteen_any _ _).mono ?_; rintro e w' ⟨rfl, rfl⟩)
    go_ret2
    exact ⟨rfl, below1 w _⟩

end Go.Proofs.Ytfjhahofmmbleaa
