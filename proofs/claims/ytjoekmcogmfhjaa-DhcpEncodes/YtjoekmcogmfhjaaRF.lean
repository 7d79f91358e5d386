/- What Encode of the reference of dhcp answers behind its first test. Conditions: numbers of their kinds, options that can be read. -/
import Derived.Test.YtjoekmcogmfhjaaRE
import Derived.Deep.Onto
namespace Go.Proofs.Ytjoekmcogmfhjaa
open Go.RowKit
attribute [local go_sem ↓] Go.wp_at_zero Go.wp_at_succ

set_option maxHeartbeats 1000000 in
theorem bytes6_any (x : Int) (_hx : 0 ≤ x ∧ x ≤ 18446744073709551615) (w : World) :
    Calls Try.prog 27 #[.int .u64 x, .int .i64 6] w fun e w' => e = .returned (.slice (some ⟨w.heap.size, 0, none⟩) 6 6) ∧ w' = w.alloc (.cells ((be x 6).map (Value.int .u8)).toArray 5) := by
  have hmk : ∀ w, (Instr.makeSlice 22 (.int .i64 6) (.int .i64 6)).run Try.prog w = .ok (.slice (some ⟨w.heap.size, 0, none⟩) 6 6) (w.alloc (.cells #[.int .u8 0, .int .u8 0, .int .u8 0, .int .u8 0, .int .u8 0, .int .u8 0] 5)) := fun _ => by kernel_rfl
  go_enter Try.func27, Try.ntmps27
  go_wp2
  refine wp_loop_rounds 7 ?_
  rw [rounds_succ]
  go_wp2
  rw [rounds_succ]
  go_wp2
  rw [rounds_succ]
  go_wp2
  rw [rounds_succ]
  go_wp2
  rw [rounds_succ]
  go_wp2
  rw [rounds_succ]
  go_wp2
  rw [rounds_succ]
  go_wp2
  go_ret
  refine ⟨rfl, ?_⟩
  have q0 : x / 2 ^ (8 * 0) = x := by rw [show (2 : Int) ^ (8 * 0) = 1 from by decide]; omega
  have q1 : x / 2 ^ (8 * 1) = x / 256 := by rw [show (2 : Int) ^ (8 * 1) = 256 from by decide]
  have q2 : x / 2 ^ (8 * 2) = x / 256 / 256 := by rw [show (2 : Int) ^ (8 * 2) = 65536 from by decide]; omega
  have q3 : x / 2 ^ (8 * 3) = x / 256 / 256 / 256 := by rw [show (2 : Int) ^ (8 * 3) = 16777216 from by decide]; omega
  have q4 : x / 2 ^ (8 * 4) = x / 256 / 256 / 256 / 256 := by rw [show (2 : Int) ^ (8 * 4) = 4294967296 from by decide]; omega
  have q5 : x / 2 ^ (8 * 5) = x / 256 / 256 / 256 / 256 / 256 := by rw [show (2 : Int) ^ (8 * 5) = 1099511627776 from by decide]; omega
  simp only [be, List.map_cons, List.map_nil, q0, q1, q2, q3, q4, q5]


theorem made6 : MadeBy 27 6 := fun x hx w => bytes6_any x hx w

theorem rb_four (w1 : World) (x : Int) (_hx : 0 ≤ x ∧ x ≤ 255) : RB w1 (w1.alloc (.cells #[.int .u8 x, .int .u8 1, .int .u8 6, .int .u8 0] 5)) (.slice (some ⟨w1.heap.size, 0, none⟩) 4 4) 4 [x, 1, 6, 0] := by
  refine ⟨?_, below1 w1 _⟩
  have := World.ownsRow_lit (base := w1.heap.size) (e := 5) (size := 1) w1 #[.int .u8 x, .int .u8 1, .int .u8 6, .int .u8 0] 4 (Nat.le_refl _) (by unfold maxLen; omega) rfl
  simpa using this

/-- append(row, text...) as one step of a region that draws. -/
theorem step_append_txt {w1 w : World} {ops : Array Oper} {o : Oper} {act : Act} {K : Act → World → Prop} {Q : Exit → Act → World → Prop} {E : Prop} (hgd : o.guard = none) (s x : Operand)
    (ho : o.op = .call { callee := .builtin .append, args := #[s, x], argTypes := #[22, 9] })
    (v : Value) (n : Nat) (xs : List Int) (hs : act.eval s = v) (hr : RB w1 w v n xs) (b : ByteArray) (hx : act.eval x = .string b) (hsum : n + b.size ≤ 140737488355328)
    (h : ∀ a' cap' w', RB w1 w' (.slice a' (n + (dnums b).length) cap') (n + (dnums b).length) (xs ++ dnums b) → w.grownBy w' v.ownBlock → K (act.put o.dst (.slice a' (n + (dnums b).length) cap')) w') :
    if Region.wanted o (yielded ops act.tmps) = true then Oper.wp Try.prog o act w K Q else E := by
  have hw : Region.wanted o (yielded ops act.tmps) = true := by simp [Region.wanted, hgd]
  rw [if_pos hw]
  obtain ⟨i0, hi, hz0, hz1, hz2⟩ := info_parts info5
  obtain ⟨v', w', hrun, h2, h3, _⟩ := Lib.run_append_own_string (P := Try.prog) w w1.heap.size 22 9 o.type 5 i0 Try.underlying22 Try.underlying9 hi hz0 hz1 hz2 v n _ hr.own b (by unfold maxLen; omega) (by omega) hr.bel.size
  rw [dnums_cells, ← List.map_append, ← dnums_len] at h2
  obtain ⟨a', cap', rfl, _⟩ := own_form h2
  unfold Oper.wp execOp
  simp only [ho, resolve, invoke, builtin, Sem.run_bind, Sem.run_pure, Result.andThen_ok, List.map_toArray, List.map_cons, List.map_nil, hs, hx, hrun]
  exact h a' cap' w' (rb_step hr h2 h3) h3

theorem RB.alloc {w1 W : World} {v : Value} {n : Nat} {xs : List Int} (h : RB w1 W v n xs) (o : Obj) : RB w1 (W.alloc o) v n xs := ⟨World.ownsRow.alloc h.own o, h.bel.alloc h.bel.size o⟩

/-- The fixed part, as the reference appends it. -/
def rfix (op xid secs flags ci yi si gi ch : Int) : List Int := [op, 1, 6, 0] ++ be xid 4 ++ be secs 2 ++ be flags 2 ++ be ci 4 ++ be yi 4 ++ be si 4 ++ be gi 4 ++ be ch 6 ++ noughts ++ [99, 130, 83, 99]
theorem rfix_eq (op xid secs flags ci yi si gi ch : Int) (h : 0 ≤ op ∧ op ≤ 255) : rfix op xid secs flags ci yi si gi ch = fixBytes op xid secs flags ci yi si gi ch := by
  have e1 : be op 1 = [op] := by
    have q0 : (2 : Int) ^ (8 * 0) = 1 := by decide
    simp only [be, q0, Int.ediv_one]
    rw [show op % 256 = op from by omega]
  unfold rfix fixBytes
  rw [show (1 : Int).toNat = 1 from rfl, e1]
  rfl

def RPost (w : World) (op xid secs flags ci yi si gi ch : Int) (os : List Opt) (e : Ending) (w' : World) : Prop :=
  ((os.all optB = true ∧ ∃ a' N cap', e = .returned (.tuple #[.slice a' N cap', .int .i64 0]) ∧ w'.ownsRow w.heap.size 5 1 (.slice a' N cap') N ((encBytes op xid secs flags ci yi si gi ch os).map (Value.int .u8))) ∨ (os.all optB = false ∧ e = .returned (.tuple #[.slice none 0 0, .int .i64 1]))) ∧ Below w.heap.size w w'

set_option linter.unusedSimpArgs false in
set_option maxRecDepth 20000 in
set_option maxHeartbeats 8000000 in
theorem rencode_main (op xid secs flags ci yi si gi ch : Int) (a : Option Addr) (n cap : Nat) (os : List Opt) (w : World) (h : OS w a n os) (hx : 0 ≤ xid ∧ xid ≤ 4294967295) (hci : 0 ≤ ci ∧ ci ≤ 4294967295) (hyi : 0 ≤ yi ∧ yi ≤ 4294967295) (hsi : 0 ≤ si ∧ si ≤ 4294967295) (hgi : 0 ≤ gi ∧ gi ≤ 4294967295) (hch : 0 ≤ ch ∧ ch ≤ 18446744073709551615) (hy : rfixB op secs flags ch n = true) :
    Calls Try.prog 12 #[dhcpV op xid secs flags ci yi si gi ch (.slice a n cap)] w (RPost w op xid secs flags ci yi si gi ch os) := by
  unfold rfixB at hy
  simp only [Bool.and_eq_true, Bool.or_eq_true, beq_iff_eq, decide_eq_true_eq] at hy
  obtain ⟨hop, ⟨hs1, hs2⟩, ⟨hf1, hf2⟩, hc6, hn64⟩ := hy
  have hopb : 0 ≤ op ∧ op ≤ 255 := by omega
  have hnI : (n : Int) ≤ 64 := by omega
  have hl := h.len
  have H : Hid _ := h
  clear h
  have hw8 : IntKind.u8.wrap op = op := by rw [IntKind.wrap_u8]; omega
  have aM0 := atB_new w #[.int .i64 op, .int .u32 xid, .int .i64 secs, .int .i64 flags, .int .u32 ci, .int .u32 yi, .int .u32 si, .int .u32 gi, .int .u64 ch, .slice a n cap] 27 w.heap.size rfl
  have hB0 := below1 w (.cells #[.int .i64 op, .int .u32 xid, .int .i64 secs, .int .i64 flags, .int .u32 ci, .int .u32 yi, .int .u32 si, .int .u32 gi, .int .u64 ch, .slice a n cap] 27)
  have R0 : RB (w.alloc (.cells #[.int .i64 op, .int .u32 xid, .int .i64 secs, .int .i64 flags, .int .u32 ci, .int .u32 yi, .int .u32 si, .int .u32 gi, .int .u64 ch, .slice a n cap] 27)) ((w.alloc (.cells #[.int .i64 op, .int .u32 xid, .int .i64 secs, .int .i64 flags, .int .u32 ci, .int .u32 yi, .int .u32 si, .int .u32 gi, .int .u64 ch, .slice a n cap] 27)).alloc (.cells #[.int .u8 op, .int .u8 1, .int .u8 6, .int .u8 0] 5)) (.slice (some ⟨w.heap.size + 1, 0, none⟩) 4 4) 4 [op, 1, 6, 0] := by
    have q := rb_four (w.alloc (.cells #[.int .i64 op, .int .u32 xid, .int .i64 secs, .int .i64 flags, .int .u32 ci, .int .u32 yi, .int .u32 si, .int .u32 gi, .int .u64 ch, .slice a n cap] 27)) op hopb
    simpa using q
  have hz0 : w.heap.size + 1 = (w.alloc (.cells #[.int .i64 op, .int .u32 xid, .int .i64 secs, .int .i64 flags, .int .u32 ci, .int .u32 yi, .int .u32 si, .int .u32 gi, .int .u64 ch, .slice a n cap] 27)).heap.size := by simp
  have AM0 : Hid _ := aM0
  have HR0 : Hid _ := R0
  have HB0 : Hid _ := hB0
  have HZ0 : Hid _ := hz0
  clear aM0 R0 hB0 hz0
  unfold dhcpV
  rcases hop with h1 | h2
  · have q1 : (op != 1) = false := by simp [h1]
    clear h1
    go_enter Try.func12, Try.ntmps12
    go_wp2_with fail
    have AM : Hid _ := AM0.out
    clear AM0
    generalize (w.alloc (.cells #[.int .i64 op, .int .u32 xid, .int .i64 secs, .int .i64 flags, .int .u32 ci, .int .u32 yi, .int .u32 si, .int .u32 gi, .int .u64 ch, .slice a n cap] 27)) = w1 at AM HR0 HB0 HZ0 ⊢
    have hww : w.heap.size < w1.heap.size := by have := HZ0.out; omega
    refine (bytes_next made4 (by omega) HR0.out xid (by omega)).mono ?_
    rintro e V1 ⟨b1, rfl, r1, bs1⟩
    obtain ⟨x0, x1, x2, x3, x4, x5, x6, x7, x8, x9⟩ := AtB.ten (AtB.below AM.out r1.bel)
    have HRb : Hid _ := r1
    have HBS : Hid _ := bs1
    clear r1 bs1 HR0
    go_wp2_with (at_builtin; refine wpList_append_rb Try.underlying22 info5 (by rfl) (.tmp 50) (.tmp 54) rfl _ _ _ rfl HRb.out _ 4 4 (be xid 4) rfl HBS.out (by omega) ?_)
    intro a1 c1 W1 hR
    clear x0 x1 x2 x3 x4 x5 x6 x7 x8 x9
    obtain ⟨x0, x1, x2, x3, x4, x5, x6, x7, x8, x9⟩ := AtB.ten (AtB.below AM.out hR.bel)
    have HR1 : Hid (RB w1 W1 (.slice a1 8 c1) 8 ([op, 1, 6, 0] ++ be xid 4)) := hR
    clear hR HRb HBS
    go_wp2_with fail
    clear x0 x1 x2 x3 x4 x5 x6 x7 x8 x9
    refine (bytes_next made2 (by omega) HR1.out secs (by omega)).mono ?_
    rintro e V2 ⟨b2, rfl, r2, bs2⟩
    obtain ⟨x0, x1, x2, x3, x4, x5, x6, x7, x8, x9⟩ := AtB.ten (AtB.below AM.out r2.bel)
    have HRb : Hid _ := r2
    have HBS : Hid _ := bs2
    clear r2 bs2 HR1
    go_wp2_with (at_builtin; refine wpList_append_rb Try.underlying22 info5 (by rfl) (.tmp 56) (.tmp 60) rfl _ _ _ rfl HRb.out _ 2 2 (be secs 2) rfl HBS.out (by omega) ?_)
    intro a2 c2 W2 hR
    clear x0 x1 x2 x3 x4 x5 x6 x7 x8 x9
    obtain ⟨x0, x1, x2, x3, x4, x5, x6, x7, x8, x9⟩ := AtB.ten (AtB.below AM.out hR.bel)
    have HR2 : Hid (RB w1 W2 (.slice a2 10 c2) 10 ([op, 1, 6, 0] ++ be xid 4 ++ be secs 2)) := hR
    clear hR HRb HBS
    go_wp2_with fail
    clear x0 x1 x2 x3 x4 x5 x6 x7 x8 x9
    refine (bytes_next made2 (by omega) HR2.out flags (by omega)).mono ?_
    rintro e V3 ⟨b3, rfl, r3, bs3⟩
    obtain ⟨x0, x1, x2, x3, x4, x5, x6, x7, x8, x9⟩ := AtB.ten (AtB.below AM.out r3.bel)
    have HRb : Hid _ := r3
    have HBS : Hid _ := bs3
    clear r3 bs3 HR2
    go_wp2_with (at_builtin; refine wpList_append_rb Try.underlying22 info5 (by rfl) (.tmp 62) (.tmp 66) rfl _ _ _ rfl HRb.out _ 2 2 (be flags 2) rfl HBS.out (by omega) ?_)
    intro a3 c3 W3 hR
    clear x0 x1 x2 x3 x4 x5 x6 x7 x8 x9
    obtain ⟨x0, x1, x2, x3, x4, x5, x6, x7, x8, x9⟩ := AtB.ten (AtB.below AM.out hR.bel)
    have HR3 : Hid (RB w1 W3 (.slice a3 12 c3) 12 ([op, 1, 6, 0] ++ be xid 4 ++ be secs 2 ++ be flags 2)) := hR
    clear hR HRb HBS
    go_wp2_with fail
    clear x0 x1 x2 x3 x4 x5 x6 x7 x8 x9
    refine (bytes_next made4 (by omega) HR3.out ci (by omega)).mono ?_
    rintro e V4 ⟨b4, rfl, r4, bs4⟩
    obtain ⟨x0, x1, x2, x3, x4, x5, x6, x7, x8, x9⟩ := AtB.ten (AtB.below AM.out r4.bel)
    have HRb : Hid _ := r4
    have HBS : Hid _ := bs4
    clear r4 bs4 HR3
    go_wp2_with (at_builtin; refine wpList_append_rb Try.underlying22 info5 (by rfl) (.tmp 68) (.tmp 72) rfl _ _ _ rfl HRb.out _ 4 4 (be ci 4) rfl HBS.out (by omega) ?_)
    intro a4 c4 W4 hR
    clear x0 x1 x2 x3 x4 x5 x6 x7 x8 x9
    obtain ⟨x0, x1, x2, x3, x4, x5, x6, x7, x8, x9⟩ := AtB.ten (AtB.below AM.out hR.bel)
    have HR4 : Hid (RB w1 W4 (.slice a4 16 c4) 16 ([op, 1, 6, 0] ++ be xid 4 ++ be secs 2 ++ be flags 2 ++ be ci 4)) := hR
    clear hR HRb HBS
    go_wp2_with fail
    clear x0 x1 x2 x3 x4 x5 x6 x7 x8 x9
    refine (bytes_next made4 (by omega) HR4.out yi (by omega)).mono ?_
    rintro e V5 ⟨b5, rfl, r5, bs5⟩
    obtain ⟨x0, x1, x2, x3, x4, x5, x6, x7, x8, x9⟩ := AtB.ten (AtB.below AM.out r5.bel)
    have HRb : Hid _ := r5
    have HBS : Hid _ := bs5
    clear r5 bs5 HR4
    go_wp2_with (at_builtin; refine wpList_append_rb Try.underlying22 info5 (by rfl) (.tmp 74) (.tmp 78) rfl _ _ _ rfl HRb.out _ 4 4 (be yi 4) rfl HBS.out (by omega) ?_)
    intro a5 c5 W5 hR
    clear x0 x1 x2 x3 x4 x5 x6 x7 x8 x9
    obtain ⟨x0, x1, x2, x3, x4, x5, x6, x7, x8, x9⟩ := AtB.ten (AtB.below AM.out hR.bel)
    have HR5 : Hid (RB w1 W5 (.slice a5 20 c5) 20 ([op, 1, 6, 0] ++ be xid 4 ++ be secs 2 ++ be flags 2 ++ be ci 4 ++ be yi 4)) := hR
    clear hR HRb HBS
    go_wp2_with fail
    clear x0 x1 x2 x3 x4 x5 x6 x7 x8 x9
    refine (bytes_next made4 (by omega) HR5.out si (by omega)).mono ?_
    rintro e V6 ⟨b6, rfl, r6, bs6⟩
    obtain ⟨x0, x1, x2, x3, x4, x5, x6, x7, x8, x9⟩ := AtB.ten (AtB.below AM.out r6.bel)
    have HRb : Hid _ := r6
    have HBS : Hid _ := bs6
    clear r6 bs6 HR5
    go_wp2_with (at_builtin; refine wpList_append_rb Try.underlying22 info5 (by rfl) (.tmp 80) (.tmp 84) rfl _ _ _ rfl HRb.out _ 4 4 (be si 4) rfl HBS.out (by omega) ?_)
    intro a6 c6 W6 hR
    clear x0 x1 x2 x3 x4 x5 x6 x7 x8 x9
    obtain ⟨x0, x1, x2, x3, x4, x5, x6, x7, x8, x9⟩ := AtB.ten (AtB.below AM.out hR.bel)
    have HR6 : Hid (RB w1 W6 (.slice a6 24 c6) 24 ([op, 1, 6, 0] ++ be xid 4 ++ be secs 2 ++ be flags 2 ++ be ci 4 ++ be yi 4 ++ be si 4)) := hR
    clear hR HRb HBS
    go_wp2_with fail
    clear x0 x1 x2 x3 x4 x5 x6 x7 x8 x9
    refine (bytes_next made4 (by omega) HR6.out gi (by omega)).mono ?_
    rintro e V7 ⟨b7, rfl, r7, bs7⟩
    obtain ⟨x0, x1, x2, x3, x4, x5, x6, x7, x8, x9⟩ := AtB.ten (AtB.below AM.out r7.bel)
    have HRb : Hid _ := r7
    have HBS : Hid _ := bs7
    clear r7 bs7 HR6
    go_wp2_with (at_builtin; refine wpList_append_rb Try.underlying22 info5 (by rfl) (.tmp 86) (.tmp 90) rfl _ _ _ rfl HRb.out _ 4 4 (be gi 4) rfl HBS.out (by omega) ?_)
    intro a7 c7 W7 hR
    clear x0 x1 x2 x3 x4 x5 x6 x7 x8 x9
    obtain ⟨x0, x1, x2, x3, x4, x5, x6, x7, x8, x9⟩ := AtB.ten (AtB.below AM.out hR.bel)
    have HR7 : Hid (RB w1 W7 (.slice a7 28 c7) 28 ([op, 1, 6, 0] ++ be xid 4 ++ be secs 2 ++ be flags 2 ++ be ci 4 ++ be yi 4 ++ be si 4 ++ be gi 4)) := hR
    clear hR HRb HBS
    go_wp2_with fail
    clear x0 x1 x2 x3 x4 x5 x6 x7 x8 x9
    refine (bytes_next made6 (by omega) HR7.out ch (by omega)).mono ?_
    rintro e V8 ⟨b8, rfl, r8, bs8⟩
    obtain ⟨x0, x1, x2, x3, x4, x5, x6, x7, x8, x9⟩ := AtB.ten (AtB.below AM.out r8.bel)
    have HRb : Hid _ := r8
    have HBS : Hid _ := bs8
    clear r8 bs8 HR7
    go_wp2_with (at_builtin; refine wpList_append_rb Try.underlying22 info5 (by rfl) (.tmp 92) (.tmp 95) rfl _ _ _ rfl HRb.out _ 6 6 (be ch 6) rfl HBS.out (by omega) ?_)
    intro a8 c8 W8 hR
    clear x0 x1 x2 x3 x4 x5 x6 x7 x8 x9
    obtain ⟨x0, x1, x2, x3, x4, x5, x6, x7, x8, x9⟩ := AtB.ten (AtB.below AM.out hR.bel)
    have HR8 : Hid (RB w1 W8 (.slice a8 34 c8) 34 ([op, 1, 6, 0] ++ be xid 4 ++ be secs 2 ++ be flags 2 ++ be ci 4 ++ be yi 4 ++ be si 4 ++ be gi 4 ++ be ch 6)) := hR
    clear hR HRb HBS
    obtain ⟨i0, hi, hz0, hz1, hz2⟩ := info_parts info5
    obtain ⟨a9, c9, W9, hrun0, h19, h29⟩ := run_append_zeros (P := Try.prog) W8 w1.heap.size 22 3 22 5 i0 .i64 .i64 Try.underlying22 Try.underlying3 hi hz0 hz1 hz2 _ _ _ HR8.out.own (by omega) 202 (by omega) (by omega) HR8.out.bel.size
    have hrun : Hid ((Builtin.append_ #[22, 3] 22 #[.slice a8 34 c8, .int .i64 202]).run Try.prog W8 = .ok (.slice a9 236 c9) W9) := hrun0
    have HR9 : Hid (RB w1 W9 (.slice a9 236 c9) 236 ([op, 1, 6, 0] ++ be xid 4 ++ be secs 2 ++ be flags 2 ++ be ci 4 ++ be yi 4 ++ be si 4 ++ be gi 4 ++ be ch 6 ++ noughts)) := rb_step HR8.out h19 h29
    clear hrun0 h19 h29 HR8
    go_wp2_with (first
      | (at_builtin; refine Lib.wpList_append_run _ rfl (.tmp 97) (.const (.int .i64 202)) 22 3 rfl _ _ rfl rfl _ _ hrun.out ?_)
      | (at_builtin; refine wpList_append_rb Try.underlying22 info5 (by rfl) (.tmp 99) (.tmp 100) rfl _ 236 _ rfl (HR9.out.alloc _) (some ⟨W9.heap.size, 0, none⟩) 4 4 [99, 130, 83, 99] rfl (bs_four W9 99 130 83 99 _ rfl (by omega) (by omega) (by omega) (by omega)) (by omega) ?_)
      | fail)
    intro a10 c10 W10 hR
    have HR10 : Hid (RB w1 W10 (.slice a10 240 c10) 240 (fixBytes op xid secs flags ci yi si gi ch)) := by
      rw [← rfix_eq op xid secs flags ci yi si gi ch hopb]
      exact hR
    clear hR HR9 hrun
    clear x0 x1 x2 x3 x4 x5 x6 x7 x8 x9
    have hFl := fixBytes_len op xid secs flags ci yi si gi ch
    generalize hFe : fixBytes op xid secs flags ci yi si gi ch = F at HR10 hFl
    have HFe : Hid _ := hFe
    clear hFe
    go_wp2_with fail
    go_loopw [4, 5] (fun v i wr => ∃ (k : Nat) (a' : Option Addr) (c' : Nat) (G : List Int), k ≤ n ∧ i = .int .i64 k ∧ v = .slice a' G.length c' ∧ Hid (G = F ++ optBytes (os.take k)) ∧ Hid (RB w1 wr (.slice a' G.length c') G.length G) ∧ Hid ((os.take k).all optB = true)) (fun _ i _ => n - (intOf i).toNat)
    case atStart => exact ⟨0, a10, c10, F, by omega, rfl, by rw [hFl], by show _ = _; rw [List.take_zero]; simp [optBytes], by show RB _ _ _ _ _; rw [hFl]; exact HR10.out, by show _ = _; simp⟩
    case round =>
      clear HR10
      obtain ⟨k, ak, ck, G, hk, rfl, rfl, hG, hRk, hAk⟩ := hrel
      obtain ⟨x0, x1, x2, x3, x4, x5, x6, x7, x8, x9⟩ := AtB.ten (AtB.below AM.out hRk.out.bel)
      have hwl : w.heap.size < wr.heap.size := Nat.lt_of_lt_of_le hww hRk.out.bel.size
      by_cases hlt : k < n
      · have hkI : (k : Int) < (n : Int) := by omega
        have HBr : Hid (Below w.heap.size w wr) := HB0.out.trans (hRk.out.bel.mono (by omega))
        obtain ⟨o, ho⟩ : ∃ o, os[k]? = some o := ⟨os[k]'(by omega), List.getElem?_eq_getElem (by omega)⟩
        obtain ⟨b, off, rfl, d0, d1, d2, hbw⟩ := os_cell (H.out.below HBr.out) hlt ho
        have hmem := List.mem_of_getElem? ho
        have hbadf : optB o = false → os.all optB = false := fun hf => by
          rw [Bool.eq_false_iff]
          intro he
          rw [List.all_eq_true.1 he o hmem] at hf
          cases hf
        have hck : (0 : Int) ≤ o.data.size := by omega
        by_cases g0 : o.cls ≠ 0
        · have hbad : Hid (os.all optB = false) := hbadf (by unfold optB; simp [g0])
          have g0' : (o.cls != 0) = true := by simp [g0]
          clear hRk hck
          go_wp2
          go_ret2
          exact ⟨.inr ⟨hbad.out, rfl⟩, HBr.out.alloc HBr.out.size _⟩
        have g0' : (o.cls != 0) = false := by simpa using g0
        by_cases g1 : o.code < 1
        · have hbad : Hid (os.all optB = false) := hbadf (by unfold optB; rw [show decide (0 < o.code) = false from by simp; omega]; simp)
          clear hRk hck
          go_wp2
          go_ret2
          exact ⟨.inr ⟨hbad.out, rfl⟩, HBr.out.alloc HBr.out.size _⟩
        by_cases g2 : 254 < o.code
        · have hbad : Hid (os.all optB = false) := hbadf (by unfold optB; rw [show decide (o.code < 255) = false from by simp; omega]; simp)
          clear hRk hck
          go_wp2
          go_ret2
          exact ⟨.inr ⟨hbad.out, rfl⟩, HBr.out.alloc HBr.out.size _⟩
        by_cases g3 : (255 : Int) < o.data.size
        · have hbad : Hid (os.all optB = false) := hbadf (by unfold optB; rw [show decide ((o.data.size : Int) ≤ 255) = false from by simp; omega]; simp)
          clear hRk hck
          go_wp2
          go_ret2
          exact ⟨.inr ⟨hbad.out, rfl⟩, HBr.out.alloc HBr.out.size _⟩
        have hoB : Hid (optB o = true) := by
          show _ = _
          unfold optB
          have e0 : o.cls = 0 := by simpa using g0
          simp [e0]
          omega
        have HS : Hid _ := optBytes_snoc ho
        have HT : Hid ((os.take (k + 1)).all optB = true) := by
          show _ = _
          obtain ⟨hk2, e2⟩ := List.getElem?_eq_some_iff.1 ho
          rw [List.take_succ_eq_append_getElem hk2, List.all_append, hAk.out, e2]
          simp [hoB.out]
        have hGl : Hid (G.length ≤ 240 + k * 257) := by
          show _ ≤ _
          rw [hG.out, List.length_append, hFl]
          have := optBytes_len hAk.out
          have h2 : (os.take k).length ≤ k := List.length_take_le _ _
          have h3 : (os.take k).length * 257 ≤ k * 257 := Nat.mul_le_mul_right _ h2
          omega
        clear hbadf hmem ho g0
        have hw1c : IntKind.u8.wrap o.code = o.code := by rw [IntKind.wrap_u8]; omega
        have hw2c : IntKind.u8.wrap (o.data.size : Int) = (o.data.size : Int) := by rw [IntKind.wrap_u8]; omega
        go_wp2_with fail
        have s1 : (wr.alloc (.cells #[.int .i64 o.cls, .int .i64 o.code, .string o.data] 45)).cell? ⟨wr.heap.size, 1, none⟩ = some (.int .i64 o.code) := by simp [World.cell?_alloc_at]
        have s2 : (wr.alloc (.cells #[.int .i64 o.cls, .int .i64 o.code, .string o.data] 45)).cell? ⟨wr.heap.size, 2, none⟩ = some (.string o.data) := by simp [World.cell?_alloc_at]
        have HRo : Hid (RB w1 (wr.alloc (.cells #[.int .i64 o.cls, .int .i64 o.code, .string o.data] 45)) (.slice ak G.length ck) G.length G) := hRk.out.alloc _
        have hszo : (wr.alloc (.cells #[.int .i64 o.cls, .int .i64 o.code, .string o.data] 45)).heap.size = wr.heap.size + 1 := by simp
        have hrow : ∀ j, (Value.slice ak G.length ck).ownBlock = some j → j < wr.heap.size := fun j hj => (World.ownsRow.lt hRk.out.own j hj).2
        clear x0 x1 x2 x3 x4 x5 x6 x7 x8 x9 d0 d1 d2 hRk
        generalize (wr.alloc (.cells #[.int .i64 o.cls, .int .i64 o.code, .string o.data] 45)) = U at s1 s2 HRo hszo ⊢
        refine wp_region_held_drew (S := fun W => W.cell? ⟨wr.heap.size, 1, none⟩ = some (.int .i64 o.code) ∧ W.cell? ⟨wr.heap.size, 2, none⟩ = some (.string o.data)) (by kernel_rfl) ?_ (fun hHeld => ?_)
        · exact ⟨s1, s2⟩
        refine wpAnyH_take (i := 0) (v := ?_) rfl (by kernel_rfl) (by kernel_rfl) (by kernel_rfl) (fun _ _ _ h => h) (Or.inl ⟨by rfl, ?_⟩) (by assumption) ?_
        rotate_left
        · (intro w hSw; (try dsimp only at hSw); go_simp; try with_reducible rfl)
        try simp only [List.getElem_toArray, List.getElem_cons_zero, List.getElem_cons_succ, Act.put, List.setIfInBounds_toArray, List.set_cons_zero, List.set_cons_succ]
        refine wpAnyH_take (i := 1) (v := ?_) rfl (by kernel_rfl) (by kernel_rfl) (by kernel_rfl) (fun _ _ _ h => h) (Or.inl ⟨by rfl, ?_⟩) (by assumption) ?_
        rotate_left
        · (intro w hSw; (try dsimp only at hSw); go_simp; try with_reducible rfl)
        try simp only [List.getElem_toArray, List.getElem_cons_zero, List.getElem_cons_succ, Act.put, List.setIfInBounds_toArray, List.set_cons_zero, List.set_cons_succ]
        refine wpAnyH_take (i := 2) (v := ?_) rfl (by kernel_rfl) (by kernel_rfl) (by kernel_rfl) (fun _ _ _ h => h) (Or.inl ⟨by rfl, ?_⟩) (by assumption) ?_
        rotate_left
        · (intro w hSw; (try dsimp only at hSw); go_simp; try with_reducible rfl)
        try simp only [List.getElem_toArray, List.getElem_cons_zero, List.getElem_cons_succ, Act.put, List.setIfInBounds_toArray, List.set_cons_zero, List.set_cons_succ]
        refine wpAnyH_take (i := 3) (v := ?_) rfl (by kernel_rfl) (by kernel_rfl) (by kernel_rfl) (fun _ _ _ h => h) (Or.inl ⟨by rfl, ?_⟩) (by assumption) ?_
        rotate_left
        · (intro w hSw; (try dsimp only at hSw); go_simp; try with_reducible rfl)
        try simp only [List.getElem_toArray, List.getElem_cons_zero, List.getElem_cons_succ, Act.put, List.setIfInBounds_toArray, List.set_cons_zero, List.set_cons_succ]
        refine wpAnyH_take (i := 4) (v := ?_) rfl (by kernel_rfl) (by kernel_rfl) (by kernel_rfl) (fun _ _ _ h => h) (Or.inl ⟨by rfl, ?_⟩) (by assumption) ?_
        rotate_left
        · (intro w hSw; (try dsimp only at hSw); go_simp; try with_reducible rfl)
        try simp only [List.getElem_toArray, List.getElem_cons_zero, List.getElem_cons_succ, Act.put, List.setIfInBounds_toArray, List.set_cons_zero, List.set_cons_succ]
        refine wpAnyH_take (i := 5) (v := ?_) rfl (by kernel_rfl) (by kernel_rfl) (by kernel_rfl) (fun _ _ _ h => h) (Or.inl ⟨by rfl, ?_⟩) (by assumption) ?_
        rotate_left
        · (intro w hSw; (try dsimp only at hSw); go_simp; try with_reducible rfl)
        try simp only [List.getElem_toArray, List.getElem_cons_zero, List.getElem_cons_succ, Act.put, List.setIfInBounds_toArray, List.set_cons_zero, List.set_cons_succ]
        refine wpAnyH_take (i := 6) (v := ?_) rfl (by kernel_rfl) (by kernel_rfl) (by kernel_rfl) (fun _ _ _ h => h) (Or.inl ⟨by rfl, ?_⟩) (by assumption) ?_
        rotate_left
        · (intro w hSw; (try dsimp only at hSw); go_simp; try with_reducible rfl)
        try simp only [List.getElem_toArray, List.getElem_cons_zero, List.getElem_cons_succ, Act.put, List.setIfInBounds_toArray, List.set_cons_zero, List.set_cons_succ]
        refine wpAnyH_take (i := 7) (v := ?_) rfl (by kernel_rfl) (by kernel_rfl) (by kernel_rfl) (fun _ _ _ h => h) (Or.inl ⟨by rfl, ?_⟩) (by assumption) ?_
        rotate_left
        · (intro w hSw; (try dsimp only at hSw); go_simp; try with_reducible rfl)
        try simp only [List.getElem_toArray, List.getElem_cons_zero, List.getElem_cons_succ, Act.put, List.setIfInBounds_toArray, List.set_cons_zero, List.set_cons_succ]
        refine wpAnyH_take (i := 10) (v := ?_) rfl (by kernel_rfl) (by kernel_rfl) (by kernel_rfl) (fun _ _ _ h => h) (Or.inl ⟨by rfl, ?_⟩) (by assumption) ?_
        rotate_left
        · (intro w hSw; (try dsimp only at hSw); go_simp; try with_reducible rfl)
        try simp only [List.getElem_toArray, List.getElem_cons_zero, List.getElem_cons_succ, Act.put, List.setIfInBounds_toArray, List.set_cons_zero, List.set_cons_succ]
        refine wpAnyH_take (i := 11) (v := ?_) rfl (by kernel_rfl) (by kernel_rfl) (by kernel_rfl) (fun _ _ _ h => h) (Or.inl ⟨by rfl, ?_⟩) (by assumption) ?_
        rotate_left
        · (intro w hSw; (try dsimp only at hSw); go_simp; try with_reducible rfl)
        try simp only [List.getElem_toArray, List.getElem_cons_zero, List.getElem_cons_succ, Act.put, List.setIfInBounds_toArray, List.set_cons_zero, List.set_cons_succ]
        refine wpAnyH_ready (rs := [8]) (by kernel_rfl) (by simp) ?_
        refine AllReadyH.cons (o := _) rfl (fun K hK => ?_) AllReadyH.nil
        go_simp
        have bU := below1 U (.cells #[.int .u8 o.code, .int .u8 (o.data.size : Int)] 5)
        have t1 : (U.alloc (.cells #[.int .u8 o.code, .int .u8 (o.data.size : Int)] 5)).drew.cell? ⟨wr.heap.size, 1, none⟩ = some (.int .i64 o.code) := (bU.cell (p := ⟨wr.heap.size, 1, none⟩) (by show wr.heap.size < _; omega)).trans s1
        have t2 : (U.alloc (.cells #[.int .u8 o.code, .int .u8 (o.data.size : Int)] 5)).drew.cell? ⟨wr.heap.size, 2, none⟩ = some (.string o.data) := (bU.cell (p := ⟨wr.heap.size, 2, none⟩) (by show wr.heap.size < _; omega)).trans s2
        refine hK.out _ _ (by exact ⟨t1, t2⟩) (fun hHeld2 => ?_)
        clear hK K hHeld
        have hHeld := hHeld2
        clear hHeld2
        try simp only [List.getElem_toArray, List.getElem_cons_zero, List.getElem_cons_succ, Act.put, List.setIfInBounds_toArray, List.set_cons_zero, List.set_cons_succ]
        refine wpAnyH_ready (rs := [9]) (by kernel_rfl) (by simp) ?_
        refine AllReadyH.cons (o := _) rfl (fun K hK => ?_) AllReadyH.nil
        have HRu : RB w1 (U.alloc (.cells #[.int .u8 o.code, .int .u8 (o.data.size : Int)] 5)).drew (.slice ak G.length ck) G.length G := (HRo.out.alloc _).drew
        obtain ⟨i5, hi5, hz50, hz51, hz52⟩ := info_parts info5
        obtain ⟨v5, w5, hr5, ho5, hg5, hat5⟩ := run_append_bsa (P := Try.prog) (U.alloc (.cells #[.int .u8 o.code, .int .u8 (o.data.size : Int)] 5)).drew w1.heap.size 22 22 5 i5 Try.underlying22 hi5 hz50 hz51 hz52 (.slice ak G.length ck) G.length G HRu.own 2 (BS.drew (bs_two U o.code (o.data.size : Int) (wr.heap.size + 1) hszo.symm (by omega) (by omega))) (by have := hGl.out; omega) HRu.bel.size
        obtain ⟨a5, c5', rfl, _⟩ := own_form ho5
        have R5 := rb_step HRu ho5 hg5
        have t1' : w5.cell? ⟨wr.heap.size, 1, none⟩ = some (.int .i64 o.code) := (hg5.cell_far ⟨wr.heap.size, 1, none⟩ (by show wr.heap.size < (U.alloc _).heap.size; simp; omega) (fun e => by have := hrow _ e.symm; simp at this)).trans t1
        have t2' : w5.cell? ⟨wr.heap.size, 2, none⟩ = some (.string o.data) := (hg5.cell_far ⟨wr.heap.size, 2, none⟩ (by show wr.heap.size < (U.alloc _).heap.size; simp; omega) (fun e => by have := hrow _ e.symm; simp at this)).trans t2
        rw [if_pos (by rfl)]
        refine Lib.wp_append_run _ (.tmp 133) (.tmp 141) 22 22 rfl _ _ rfl rfl _ _ hr5 ?_
        refine hK.out _ _ (by exact ⟨t1', t2'⟩) (fun hHeld2 => ?_)
        clear hK K hHeld
        have hHeld := hHeld2
        clear hHeld2
        try simp only [List.getElem_toArray, List.getElem_cons_zero, List.getElem_cons_succ, Act.put, List.setIfInBounds_toArray, List.set_cons_zero, List.set_cons_succ]
        refine wpAnyH_ready (rs := [12]) (by kernel_rfl) (by simp) ?_
        refine AllReadyH.cons (o := _) rfl (fun K hK => ?_) AllReadyH.nil
        refine step_append_txt (by rfl) (.tmp 142) (.tmp 144) (by rfl) _ _ _ (by rfl) R5 o.data (by rfl) (by have := hGl.out; omega) ?_
        intro a7' c7' w7 R7 hg7
        have hrow7 : ∀ j, (Value.slice a5 (G.length + 2) c5').ownBlock = some j → j ≠ wr.heap.size := fun j hj e => by
          subst e
          rcases hat5 with h5 | h5
          · have := hrow wr.heap.size (by rw [← h5]; exact hj)
            omega
          · rw [h5] at hj
            simp at hj
            omega
        have t1q : w7.cell? ⟨wr.heap.size, 1, none⟩ = some (.int .i64 o.code) := (hg7.cell_far ⟨wr.heap.size, 1, none⟩ (cell_lt t1') (fun e => hrow7 _ e.symm rfl)).trans t1'
        have t2q : w7.cell? ⟨wr.heap.size, 2, none⟩ = some (.string o.data) := (hg7.cell_far ⟨wr.heap.size, 2, none⟩ (cell_lt t2') (fun e => hrow7 _ e.symm rfl)).trans t2'
        refine hK.out _ _ (by exact ⟨t1q, t2q⟩) (fun hHeld2 => ?_)
        clear hK K hHeld
        have hHeld := hHeld2
        clear hHeld2
        try simp only [List.getElem_toArray, List.getElem_cons_zero, List.getElem_cons_succ, Act.put, List.setIfInBounds_toArray, List.set_cons_zero, List.set_cons_succ]
        refine wpAnyH_take (i := 13) (v := ?_) rfl (by kernel_rfl) (by kernel_rfl) (by kernel_rfl) (fun _ _ _ h => h) (Or.inl ⟨by rfl, ?_⟩) (by assumption) ?_
        rotate_left
        · (intro w hSw; (try dsimp only at hSw); go_simp; try with_reducible rfl)
        try simp only [List.getElem_toArray, List.getElem_cons_zero, List.getElem_cons_succ, Act.put, List.setIfInBounds_toArray, List.set_cons_zero, List.set_cons_succ]
        refine wpAnyH_done (by kernel_rfl) ?_ _
        have HG2 : Hid (G ++ [o.code, (o.data.size : Int)] ++ dnums o.data = F ++ optBytes (os.take (k + 1))) := by
          show _ = _
          rw [HS.out, ← List.append_assoc, ← List.append_assoc, ← hG.out]
        have HR7 : Hid (RB w1 w7 (.slice a7' (G ++ [o.code, (o.data.size : Int)] ++ dnums o.data).length c7') (G ++ [o.code, (o.data.size : Int)] ++ dnums o.data).length (G ++ [o.code, (o.data.size : Int)] ++ dnums o.data)) := by
          show RB _ _ _ _ _
          rw [show (G ++ [o.code, (o.data.size : Int)] ++ dnums o.data).length = G.length + 2 + (dnums o.data).length from by simp; omega]
          exact R7
        have hlen7 : (G ++ [o.code, (o.data.size : Int)] ++ dnums o.data).length = G.length + 2 + (dnums o.data).length := by simp; omega
        have HL7 : Hid _ := hlen7
        clear R7 hg7 hrow7 t1q t2q hHeld hr5 ho5 hg5 hat5 R5 t1' t2' HRu bU t1 t2 s1 s2 HRo hrow hlen7
        go_wp2
        go_roundw
        case rel => exact ⟨k + 1, a7', c7', _, by omega, by go_num, by rw [HL7.out], HG2, HR7, HT⟩
        case measure => simp [intOf]; omega
      · obtain rfl : k = n := by omega
        have hGl : Hid (G.length ≤ 240 + k * 257) := by
          show _ ≤ _
          rw [hG.out, List.length_append, hFl]
          have := optBytes_len hAk.out
          have h2 : (os.take k).length ≤ k := List.length_take_le _ _
          have h3 : (os.take k).length * 257 ≤ k * 257 := Nat.mul_le_mul_right _ h2
          omega
        go_wp2_with (at_builtin; refine wpList_append_rb Try.underlying22 info5 (by rfl) (.tmp 146) (.tmp 147) rfl _ _ _ rfl (hRk.out.alloc _) (some ⟨wr.heap.size, 0, none⟩) 1 1 [255] rfl (bs_one wr _ _ rfl (by omega)) (by have := hGl.out; omega) ?_)
        intro a1' c1' wz hR
        have hall : Hid (os.all optB = true) := by
          have := hAk.out
          rw [List.take_of_length_le (by omega)] at this
          exact this
        have HRz : Hid (wz.ownsRow w.heap.size 5 1 (.slice a1' (G.length + 1) c1') (G.length + 1) ((encBytes op xid secs flags ci yi si gi ch os).map (Value.int .u8))) := by
          show World.ownsRow _ _ _ _ _ _ _
          have e : encBytes op xid secs flags ci yi si gi ch os = G ++ [255] := by
            unfold encBytes
            rw [hG.out, List.take_of_length_le (by omega), HFe.out]
          rw [e]
          exact World.ownsRow.mono hR.own (by omega)
        have HBz : Hid (Below w.heap.size w wz) := HB0.out.trans (hR.bel.mono (by omega))
        clear hR x0 x1 x2 x3 x4 x5 x6 x7 x8 x9
        go_wp2
        go_ret2
        exact ⟨.inl ⟨hall.out, a1', G.length + 1, c1', rfl, HRz.out⟩, HBz.out⟩
  · have q1 : (op != 1) = true := by rw [h2]; decide
    have q2 : (op != 2) = false := by simp [h2]
    clear h2
    go_enter Try.func12, Try.ntmps12
    go_wp2_with fail
    have AM : Hid _ := AM0.out
    clear AM0
    generalize (w.alloc (.cells #[.int .i64 op, .int .u32 xid, .int .i64 secs, .int .i64 flags, .int .u32 ci, .int .u32 yi, .int .u32 si, .int .u32 gi, .int .u64 ch, .slice a n cap] 27)) = w1 at AM HR0 HB0 HZ0 ⊢
    have hww : w.heap.size < w1.heap.size := by have := HZ0.out; omega
    refine (bytes_next made4 (by omega) HR0.out xid (by omega)).mono ?_
    rintro e V1 ⟨b1, rfl, r1, bs1⟩
    obtain ⟨x0, x1, x2, x3, x4, x5, x6, x7, x8, x9⟩ := AtB.ten (AtB.below AM.out r1.bel)
    have HRb : Hid _ := r1
    have HBS : Hid _ := bs1
    clear r1 bs1 HR0
    go_wp2_with (at_builtin; refine wpList_append_rb Try.underlying22 info5 (by rfl) (.tmp 50) (.tmp 54) rfl _ _ _ rfl HRb.out _ 4 4 (be xid 4) rfl HBS.out (by omega) ?_)
    intro a1 c1 W1 hR
    clear x0 x1 x2 x3 x4 x5 x6 x7 x8 x9
    obtain ⟨x0, x1, x2, x3, x4, x5, x6, x7, x8, x9⟩ := AtB.ten (AtB.below AM.out hR.bel)
    have HR1 : Hid (RB w1 W1 (.slice a1 8 c1) 8 ([op, 1, 6, 0] ++ be xid 4)) := hR
    clear hR HRb HBS
    go_wp2_with fail
    clear x0 x1 x2 x3 x4 x5 x6 x7 x8 x9
    refine (bytes_next made2 (by omega) HR1.out secs (by omega)).mono ?_
    rintro e V2 ⟨b2, rfl, r2, bs2⟩
    obtain ⟨x0, x1, x2, x3, x4, x5, x6, x7, x8, x9⟩ := AtB.ten (AtB.below AM.out r2.bel)
    have HRb : Hid _ := r2
    have HBS : Hid _ := bs2
    clear r2 bs2 HR1
    go_wp2_with (at_builtin; refine wpList_append_rb Try.underlying22 info5 (by rfl) (.tmp 56) (.tmp 60) rfl _ _ _ rfl HRb.out _ 2 2 (be secs 2) rfl HBS.out (by omega) ?_)
    intro a2 c2 W2 hR
    clear x0 x1 x2 x3 x4 x5 x6 x7 x8 x9
    obtain ⟨x0, x1, x2, x3, x4, x5, x6, x7, x8, x9⟩ := AtB.ten (AtB.below AM.out hR.bel)
    have HR2 : Hid (RB w1 W2 (.slice a2 10 c2) 10 ([op, 1, 6, 0] ++ be xid 4 ++ be secs 2)) := hR
    clear hR HRb HBS
    go_wp2_with fail
    clear x0 x1 x2 x3 x4 x5 x6 x7 x8 x9
    refine (bytes_next made2 (by omega) HR2.out flags (by omega)).mono ?_
    rintro e V3 ⟨b3, rfl, r3, bs3⟩
    obtain ⟨x0, x1, x2, x3, x4, x5, x6, x7, x8, x9⟩ := AtB.ten (AtB.below AM.out r3.bel)
    have HRb : Hid _ := r3
    have HBS : Hid _ := bs3
    clear r3 bs3 HR2
    go_wp2_with (at_builtin; refine wpList_append_rb Try.underlying22 info5 (by rfl) (.tmp 62) (.tmp 66) rfl _ _ _ rfl HRb.out _ 2 2 (be flags 2) rfl HBS.out (by omega) ?_)
    intro a3 c3 W3 hR
    clear x0 x1 x2 x3 x4 x5 x6 x7 x8 x9
    obtain ⟨x0, x1, x2, x3, x4, x5, x6, x7, x8, x9⟩ := AtB.ten (AtB.below AM.out hR.bel)
    have HR3 : Hid (RB w1 W3 (.slice a3 12 c3) 12 ([op, 1, 6, 0] ++ be xid 4 ++ be secs 2 ++ be flags 2)) := hR
    clear hR HRb HBS
    go_wp2_with fail
    clear x0 x1 x2 x3 x4 x5 x6 x7 x8 x9
    refine (bytes_next made4 (by omega) HR3.out ci (by omega)).mono ?_
    rintro e V4 ⟨b4, rfl, r4, bs4⟩
    obtain ⟨x0, x1, x2, x3, x4, x5, x6, x7, x8, x9⟩ := AtB.ten (AtB.below AM.out r4.bel)
    have HRb : Hid _ := r4
    have HBS : Hid _ := bs4
    clear r4 bs4 HR3
    go_wp2_with (at_builtin; refine wpList_append_rb Try.underlying22 info5 (by rfl) (.tmp 68) (.tmp 72) rfl _ _ _ rfl HRb.out _ 4 4 (be ci 4) rfl HBS.out (by omega) ?_)
    intro a4 c4 W4 hR
    clear x0 x1 x2 x3 x4 x5 x6 x7 x8 x9
    obtain ⟨x0, x1, x2, x3, x4, x5, x6, x7, x8, x9⟩ := AtB.ten (AtB.below AM.out hR.bel)
    have HR4 : Hid (RB w1 W4 (.slice a4 16 c4) 16 ([op, 1, 6, 0] ++ be xid 4 ++ be secs 2 ++ be flags 2 ++ be ci 4)) := hR
    clear hR HRb HBS
    go_wp2_with fail
    clear x0 x1 x2 x3 x4 x5 x6 x7 x8 x9
    refine (bytes_next made4 (by omega) HR4.out yi (by omega)).mono ?_
    rintro e V5 ⟨b5, rfl, r5, bs5⟩
    obtain ⟨x0, x1, x2, x3, x4, x5, x6, x7, x8, x9⟩ := AtB.ten (AtB.below AM.out r5.bel)
    have HRb : Hid _ := r5
    have HBS : Hid _ := bs5
    clear r5 bs5 HR4
    go_wp2_with (at_builtin; refine wpList_append_rb Try.underlying22 info5 (by rfl) (.tmp 74) (.tmp 78) rfl _ _ _ rfl HRb.out _ 4 4 (be yi 4) rfl HBS.out (by omega) ?_)
    intro a5 c5 W5 hR
    clear x0 x1 x2 x3 x4 x5 x6 x7 x8 x9
    obtain ⟨x0, x1, x2, x3, x4, x5, x6, x7, x8, x9⟩ := AtB.ten (AtB.below AM.out hR.bel)
    have HR5 : Hid (RB w1 W5 (.slice a5 20 c5) 20 ([op, 1, 6, 0] ++ be xid 4 ++ be secs 2 ++ be flags 2 ++ be ci 4 ++ be yi 4)) := hR
    clear hR HRb HBS
    go_wp2_with fail
    clear x0 x1 x2 x3 x4 x5 x6 x7 x8 x9
    refine (bytes_next made4 (by omega) HR5.out si (by omega)).mono ?_
    rintro e V6 ⟨b6, rfl, r6, bs6⟩
    obtain ⟨x0, x1, x2, x3, x4, x5, x6, x7, x8, x9⟩ := AtB.ten (AtB.below AM.out r6.bel)
    have HRb : Hid _ := r6
    have HBS : Hid _ := bs6
    clear r6 bs6 HR5
    go_wp2_with (at_builtin; refine wpList_append_rb Try.underlying22 info5 (by rfl) (.tmp 80) (.tmp 84) rfl _ _ _ rfl HRb.out _ 4 4 (be si 4) rfl HBS.out (by omega) ?_)
    intro a6 c6 W6 hR
    clear x0 x1 x2 x3 x4 x5 x6 x7 x8 x9
    obtain ⟨x0, x1, x2, x3, x4, x5, x6, x7, x8, x9⟩ := AtB.ten (AtB.below AM.out hR.bel)
    have HR6 : Hid (RB w1 W6 (.slice a6 24 c6) 24 ([op, 1, 6, 0] ++ be xid 4 ++ be secs 2 ++ be flags 2 ++ be ci 4 ++ be yi 4 ++ be si 4)) := hR
    clear hR HRb HBS
    go_wp2_with fail
    clear x0 x1 x2 x3 x4 x5 x6 x7 x8 x9
    refine (bytes_next made4 (by omega) HR6.out gi (by omega)).mono ?_
    rintro e V7 ⟨b7, rfl, r7, bs7⟩
    obtain ⟨x0, x1, x2, x3, x4, x5, x6, x7, x8, x9⟩ := AtB.ten (AtB.below AM.out r7.bel)
    have HRb : Hid _ := r7
    have HBS : Hid _ := bs7
    clear r7 bs7 HR6
    go_wp2_with (at_builtin; refine wpList_append_rb Try.underlying22 info5 (by rfl) (.tmp 86) (.tmp 90) rfl _ _ _ rfl HRb.out _ 4 4 (be gi 4) rfl HBS.out (by omega) ?_)
    intro a7 c7 W7 hR
    clear x0 x1 x2 x3 x4 x5 x6 x7 x8 x9
    obtain ⟨x0, x1, x2, x3, x4, x5, x6, x7, x8, x9⟩ := AtB.ten (AtB.below AM.out hR.bel)
    have HR7 : Hid (RB w1 W7 (.slice a7 28 c7) 28 ([op, 1, 6, 0] ++ be xid 4 ++ be secs 2 ++ be flags 2 ++ be ci 4 ++ be yi 4 ++ be si 4 ++ be gi 4)) := hR
    clear hR HRb HBS
    go_wp2_with fail
    clear x0 x1 x2 x3 x4 x5 x6 x7 x8 x9
    refine (bytes_next made6 (by omega) HR7.out ch (by omega)).mono ?_
    rintro e V8 ⟨b8, rfl, r8, bs8⟩
    obtain ⟨x0, x1, x2, x3, x4, x5, x6, x7, x8, x9⟩ := AtB.ten (AtB.below AM.out r8.bel)
    have HRb : Hid _ := r8
    have HBS : Hid _ := bs8
    clear r8 bs8 HR7
    go_wp2_with (at_builtin; refine wpList_append_rb Try.underlying22 info5 (by rfl) (.tmp 92) (.tmp 95) rfl _ _ _ rfl HRb.out _ 6 6 (be ch 6) rfl HBS.out (by omega) ?_)
    intro a8 c8 W8 hR
    clear x0 x1 x2 x3 x4 x5 x6 x7 x8 x9
    obtain ⟨x0, x1, x2, x3, x4, x5, x6, x7, x8, x9⟩ := AtB.ten (AtB.below AM.out hR.bel)
    have HR8 : Hid (RB w1 W8 (.slice a8 34 c8) 34 ([op, 1, 6, 0] ++ be xid 4 ++ be secs 2 ++ be flags 2 ++ be ci 4 ++ be yi 4 ++ be si 4 ++ be gi 4 ++ be ch 6)) := hR
    clear hR HRb HBS
    obtain ⟨i0, hi, hz0, hz1, hz2⟩ := info_parts info5
    obtain ⟨a9, c9, W9, hrun0, h19, h29⟩ := run_append_zeros (P := Try.prog) W8 w1.heap.size 22 3 22 5 i0 .i64 .i64 Try.underlying22 Try.underlying3 hi hz0 hz1 hz2 _ _ _ HR8.out.own (by omega) 202 (by omega) (by omega) HR8.out.bel.size
    have hrun : Hid ((Builtin.append_ #[22, 3] 22 #[.slice a8 34 c8, .int .i64 202]).run Try.prog W8 = .ok (.slice a9 236 c9) W9) := hrun0
    have HR9 : Hid (RB w1 W9 (.slice a9 236 c9) 236 ([op, 1, 6, 0] ++ be xid 4 ++ be secs 2 ++ be flags 2 ++ be ci 4 ++ be yi 4 ++ be si 4 ++ be gi 4 ++ be ch 6 ++ noughts)) := rb_step HR8.out h19 h29
    clear hrun0 h19 h29 HR8
    go_wp2_with (first
      | (at_builtin; refine Lib.wpList_append_run _ rfl (.tmp 97) (.const (.int .i64 202)) 22 3 rfl _ _ rfl rfl _ _ hrun.out ?_)
      | (at_builtin; refine wpList_append_rb Try.underlying22 info5 (by rfl) (.tmp 99) (.tmp 100) rfl _ 236 _ rfl (HR9.out.alloc _) (some ⟨W9.heap.size, 0, none⟩) 4 4 [99, 130, 83, 99] rfl (bs_four W9 99 130 83 99 _ rfl (by omega) (by omega) (by omega) (by omega)) (by omega) ?_)
      | fail)
    intro a10 c10 W10 hR
    have HR10 : Hid (RB w1 W10 (.slice a10 240 c10) 240 (fixBytes op xid secs flags ci yi si gi ch)) := by
      rw [← rfix_eq op xid secs flags ci yi si gi ch hopb]
      exact hR
    clear hR HR9 hrun
    clear x0 x1 x2 x3 x4 x5 x6 x7 x8 x9
    have hFl := fixBytes_len op xid secs flags ci yi si gi ch
    generalize hFe : fixBytes op xid secs flags ci yi si gi ch = F at HR10 hFl
    have HFe : Hid _ := hFe
    clear hFe
    go_wp2_with fail
    go_loopw [4, 5] (fun v i wr => ∃ (k : Nat) (a' : Option Addr) (c' : Nat) (G : List Int), k ≤ n ∧ i = .int .i64 k ∧ v = .slice a' G.length c' ∧ Hid (G = F ++ optBytes (os.take k)) ∧ Hid (RB w1 wr (.slice a' G.length c') G.length G) ∧ Hid ((os.take k).all optB = true)) (fun _ i _ => n - (intOf i).toNat)
    case atStart => exact ⟨0, a10, c10, F, by omega, rfl, by rw [hFl], by show _ = _; rw [List.take_zero]; simp [optBytes], by show RB _ _ _ _ _; rw [hFl]; exact HR10.out, by show _ = _; simp⟩
    case round =>
      clear HR10
      obtain ⟨k, ak, ck, G, hk, rfl, rfl, hG, hRk, hAk⟩ := hrel
      obtain ⟨x0, x1, x2, x3, x4, x5, x6, x7, x8, x9⟩ := AtB.ten (AtB.below AM.out hRk.out.bel)
      have hwl : w.heap.size < wr.heap.size := Nat.lt_of_lt_of_le hww hRk.out.bel.size
      by_cases hlt : k < n
      · have hkI : (k : Int) < (n : Int) := by omega
        have HBr : Hid (Below w.heap.size w wr) := HB0.out.trans (hRk.out.bel.mono (by omega))
        obtain ⟨o, ho⟩ : ∃ o, os[k]? = some o := ⟨os[k]'(by omega), List.getElem?_eq_getElem (by omega)⟩
        obtain ⟨b, off, rfl, d0, d1, d2, hbw⟩ := os_cell (H.out.below HBr.out) hlt ho
        have hmem := List.mem_of_getElem? ho
        have hbadf : optB o = false → os.all optB = false := fun hf => by
          rw [Bool.eq_false_iff]
          intro he
          rw [List.all_eq_true.1 he o hmem] at hf
          cases hf
        have hck : (0 : Int) ≤ o.data.size := by omega
        by_cases g0 : o.cls ≠ 0
        · have hbad : Hid (os.all optB = false) := hbadf (by unfold optB; simp [g0])
          have g0' : (o.cls != 0) = true := by simp [g0]
          clear hRk hck
          go_wp2
          go_ret2
          exact ⟨.inr ⟨hbad.out, rfl⟩, HBr.out.alloc HBr.out.size _⟩
        have g0' : (o.cls != 0) = false := by simpa using g0
        by_cases g1 : o.code < 1
        · have hbad : Hid (os.all optB = false) := hbadf (by unfold optB; rw [show decide (0 < o.code) = false from by simp; omega]; simp)
          clear hRk hck
          go_wp2
          go_ret2
          exact ⟨.inr ⟨hbad.out, rfl⟩, HBr.out.alloc HBr.out.size _⟩
        by_cases g2 : 254 < o.code
        · have hbad : Hid (os.all optB = false) := hbadf (by unfold optB; rw [show decide (o.code < 255) = false from by simp; omega]; simp)
          clear hRk hck
          go_wp2
          go_ret2
          exact ⟨.inr ⟨hbad.out, rfl⟩, HBr.out.alloc HBr.out.size _⟩
        by_cases g3 : (255 : Int) < o.data.size
        · have hbad : Hid (os.all optB = false) := hbadf (by unfold optB; rw [show decide ((o.data.size : Int) ≤ 255) = false from by simp; omega]; simp)
          clear hRk hck
          go_wp2
          go_ret2
          exact ⟨.inr ⟨hbad.out, rfl⟩, HBr.out.alloc HBr.out.size _⟩
        have hoB : Hid (optB o = true) := by
          show _ = _
          unfold optB
          have e0 : o.cls = 0 := by simpa using g0
          simp [e0]
          omega
        have HS : Hid _ := optBytes_snoc ho
        have HT : Hid ((os.take (k + 1)).all optB = true) := by
          show _ = _
          obtain ⟨hk2, e2⟩ := List.getElem?_eq_some_iff.1 ho
          rw [List.take_succ_eq_append_getElem hk2, List.all_append, hAk.out, e2]
          simp [hoB.out]
        have hGl : Hid (G.length ≤ 240 + k * 257) := by
          show _ ≤ _
          rw [hG.out, List.length_append, hFl]
          have := optBytes_len hAk.out
          have h2 : (os.take k).length ≤ k := List.length_take_le _ _
          have h3 : (os.take k).length * 257 ≤ k * 257 := Nat.mul_le_mul_right _ h2
          omega
        clear hbadf hmem ho g0
        have hw1c : IntKind.u8.wrap o.code = o.code := by rw [IntKind.wrap_u8]; omega
        have hw2c : IntKind.u8.wrap (o.data.size : Int) = (o.data.size : Int) := by rw [IntKind.wrap_u8]; omega
        go_wp2_with fail
        have s1 : (wr.alloc (.cells #[.int .i64 o.cls, .int .i64 o.code, .string o.data] 45)).cell? ⟨wr.heap.size, 1, none⟩ = some (.int .i64 o.code) := by simp [World.cell?_alloc_at]
        have s2 : (wr.alloc (.cells #[.int .i64 o.cls, .int .i64 o.code, .string o.data] 45)).cell? ⟨wr.heap.size, 2, none⟩ = some (.string o.data) := by simp [World.cell?_alloc_at]
        have HRo : Hid (RB w1 (wr.alloc (.cells #[.int .i64 o.cls, .int .i64 o.code, .string o.data] 45)) (.slice ak G.length ck) G.length G) := hRk.out.alloc _
        have hszo : (wr.alloc (.cells #[.int .i64 o.cls, .int .i64 o.code, .string o.data] 45)).heap.size = wr.heap.size + 1 := by simp
        have hrow : ∀ j, (Value.slice ak G.length ck).ownBlock = some j → j < wr.heap.size := fun j hj => (World.ownsRow.lt hRk.out.own j hj).2
        clear x0 x1 x2 x3 x4 x5 x6 x7 x8 x9 d0 d1 d2 hRk
        generalize (wr.alloc (.cells #[.int .i64 o.cls, .int .i64 o.code, .string o.data] 45)) = U at s1 s2 HRo hszo ⊢
        refine wp_region_held_drew (S := fun W => W.cell? ⟨wr.heap.size, 1, none⟩ = some (.int .i64 o.code) ∧ W.cell? ⟨wr.heap.size, 2, none⟩ = some (.string o.data)) (by kernel_rfl) ?_ (fun hHeld => ?_)
        · exact ⟨s1, s2⟩
        refine wpAnyH_take (i := 0) (v := ?_) rfl (by kernel_rfl) (by kernel_rfl) (by kernel_rfl) (fun _ _ _ h => h) (Or.inl ⟨by rfl, ?_⟩) (by assumption) ?_
        rotate_left
        · (intro w hSw; (try dsimp only at hSw); go_simp; try with_reducible rfl)
        try simp only [List.getElem_toArray, List.getElem_cons_zero, List.getElem_cons_succ, Act.put, List.setIfInBounds_toArray, List.set_cons_zero, List.set_cons_succ]
        refine wpAnyH_take (i := 1) (v := ?_) rfl (by kernel_rfl) (by kernel_rfl) (by kernel_rfl) (fun _ _ _ h => h) (Or.inl ⟨by rfl, ?_⟩) (by assumption) ?_
        rotate_left
        · (intro w hSw; (try dsimp only at hSw); go_simp; try with_reducible rfl)
        try simp only [List.getElem_toArray, List.getElem_cons_zero, List.getElem_cons_succ, Act.put, List.setIfInBounds_toArray, List.set_cons_zero, List.set_cons_succ]
        refine wpAnyH_take (i := 2) (v := ?_) rfl (by kernel_rfl) (by kernel_rfl) (by kernel_rfl) (fun _ _ _ h => h) (Or.inl ⟨by rfl, ?_⟩) (by assumption) ?_
        rotate_left
        · (intro w hSw; (try dsimp only at hSw); go_simp; try with_reducible rfl)
        try simp only [List.getElem_toArray, List.getElem_cons_zero, List.getElem_cons_succ, Act.put, List.setIfInBounds_toArray, List.set_cons_zero, List.set_cons_succ]
        refine wpAnyH_take (i := 3) (v := ?_) rfl (by kernel_rfl) (by kernel_rfl) (by kernel_rfl) (fun _ _ _ h => h) (Or.inl ⟨by rfl, ?_⟩) (by assumption) ?_
        rotate_left
        · (intro w hSw; (try dsimp only at hSw); go_simp; try with_reducible rfl)
        try simp only [List.getElem_toArray, List.getElem_cons_zero, List.getElem_cons_succ, Act.put, List.setIfInBounds_toArray, List.set_cons_zero, List.set_cons_succ]
        refine wpAnyH_take (i := 4) (v := ?_) rfl (by kernel_rfl) (by kernel_rfl) (by kernel_rfl) (fun _ _ _ h => h) (Or.inl ⟨by rfl, ?_⟩) (by assumption) ?_
        rotate_left
        · (intro w hSw; (try dsimp only at hSw); go_simp; try with_reducible rfl)
        try simp only [List.getElem_toArray, List.getElem_cons_zero, List.getElem_cons_succ, Act.put, List.setIfInBounds_toArray, List.set_cons_zero, List.set_cons_succ]
        refine wpAnyH_take (i := 5) (v := ?_) rfl (by kernel_rfl) (by kernel_rfl) (by kernel_rfl) (fun _ _ _ h => h) (Or.inl ⟨by rfl, ?_⟩) (by assumption) ?_
        rotate_left
        · (intro w hSw; (try dsimp only at hSw); go_simp; try with_reducible rfl)
        try simp only [List.getElem_toArray, List.getElem_cons_zero, List.getElem_cons_succ, Act.put, List.setIfInBounds_toArray, List.set_cons_zero, List.set_cons_succ]
        refine wpAnyH_take (i := 6) (v := ?_) rfl (by kernel_rfl) (by kernel_rfl) (by kernel_rfl) (fun _ _ _ h => h) (Or.inl ⟨by rfl, ?_⟩) (by assumption) ?_
        rotate_left
        · (intro w hSw; (try dsimp only at hSw); go_simp; try with_reducible rfl)
        try simp only [List.getElem_toArray, List.getElem_cons_zero, List.getElem_cons_succ, Act.put, List.setIfInBounds_toArray, List.set_cons_zero, List.set_cons_succ]
        refine wpAnyH_take (i := 7) (v := ?_) rfl (by kernel_rfl) (by kernel_rfl) (by kernel_rfl) (fun _ _ _ h => h) (Or.inl ⟨by rfl, ?_⟩) (by assumption) ?_
        rotate_left
        · (intro w hSw; (try dsimp only at hSw); go_simp; try with_reducible rfl)
        try simp only [List.getElem_toArray, List.getElem_cons_zero, List.getElem_cons_succ, Act.put, List.setIfInBounds_toArray, List.set_cons_zero, List.set_cons_succ]
        refine wpAnyH_take (i := 10) (v := ?_) rfl (by kernel_rfl) (by kernel_rfl) (by kernel_rfl) (fun _ _ _ h => h) (Or.inl ⟨by rfl, ?_⟩) (by assumption) ?_
        rotate_left
        · (intro w hSw; (try dsimp only at hSw); go_simp; try with_reducible rfl)
        try simp only [List.getElem_toArray, List.getElem_cons_zero, List.getElem_cons_succ, Act.put, List.setIfInBounds_toArray, List.set_cons_zero, List.set_cons_succ]
        refine wpAnyH_take (i := 11) (v := ?_) rfl (by kernel_rfl) (by kernel_rfl) (by kernel_rfl) (fun _ _ _ h => h) (Or.inl ⟨by rfl, ?_⟩) (by assumption) ?_
        rotate_left
        · (intro w hSw; (try dsimp only at hSw); go_simp; try with_reducible rfl)
        try simp only [List.getElem_toArray, List.getElem_cons_zero, List.getElem_cons_succ, Act.put, List.setIfInBounds_toArray, List.set_cons_zero, List.set_cons_succ]
        refine wpAnyH_ready (rs := [8]) (by kernel_rfl) (by simp) ?_
        refine AllReadyH.cons (o := _) rfl (fun K hK => ?_) AllReadyH.nil
        go_simp
        have bU := below1 U (.cells #[.int .u8 o.code, .int .u8 (o.data.size : Int)] 5)
        have t1 : (U.alloc (.cells #[.int .u8 o.code, .int .u8 (o.data.size : Int)] 5)).drew.cell? ⟨wr.heap.size, 1, none⟩ = some (.int .i64 o.code) := (bU.cell (p := ⟨wr.heap.size, 1, none⟩) (by show wr.heap.size < _; omega)).trans s1
        have t2 : (U.alloc (.cells #[.int .u8 o.code, .int .u8 (o.data.size : Int)] 5)).drew.cell? ⟨wr.heap.size, 2, none⟩ = some (.string o.data) := (bU.cell (p := ⟨wr.heap.size, 2, none⟩) (by show wr.heap.size < _; omega)).trans s2
        refine hK.out _ _ (by exact ⟨t1, t2⟩) (fun hHeld2 => ?_)
        clear hK K hHeld
        have hHeld := hHeld2
        clear hHeld2
        try simp only [List.getElem_toArray, List.getElem_cons_zero, List.getElem_cons_succ, Act.put, List.setIfInBounds_toArray, List.set_cons_zero, List.set_cons_succ]
        refine wpAnyH_ready (rs := [9]) (by kernel_rfl) (by simp) ?_
        refine AllReadyH.cons (o := _) rfl (fun K hK => ?_) AllReadyH.nil
        have HRu : RB w1 (U.alloc (.cells #[.int .u8 o.code, .int .u8 (o.data.size : Int)] 5)).drew (.slice ak G.length ck) G.length G := (HRo.out.alloc _).drew
        obtain ⟨i5, hi5, hz50, hz51, hz52⟩ := info_parts info5
        obtain ⟨v5, w5, hr5, ho5, hg5, hat5⟩ := run_append_bsa (P := Try.prog) (U.alloc (.cells #[.int .u8 o.code, .int .u8 (o.data.size : Int)] 5)).drew w1.heap.size 22 22 5 i5 Try.underlying22 hi5 hz50 hz51 hz52 (.slice ak G.length ck) G.length G HRu.own 2 (BS.drew (bs_two U o.code (o.data.size : Int) (wr.heap.size + 1) hszo.symm (by omega) (by omega))) (by have := hGl.out; omega) HRu.bel.size
        obtain ⟨a5, c5', rfl, _⟩ := own_form ho5
        have R5 := rb_step HRu ho5 hg5
        have t1' : w5.cell? ⟨wr.heap.size, 1, none⟩ = some (.int .i64 o.code) := (hg5.cell_far ⟨wr.heap.size, 1, none⟩ (by show wr.heap.size < (U.alloc _).heap.size; simp; omega) (fun e => by have := hrow _ e.symm; simp at this)).trans t1
        have t2' : w5.cell? ⟨wr.heap.size, 2, none⟩ = some (.string o.data) := (hg5.cell_far ⟨wr.heap.size, 2, none⟩ (by show wr.heap.size < (U.alloc _).heap.size; simp; omega) (fun e => by have := hrow _ e.symm; simp at this)).trans t2
        rw [if_pos (by rfl)]
        refine Lib.wp_append_run _ (.tmp 133) (.tmp 141) 22 22 rfl _ _ rfl rfl _ _ hr5 ?_
        refine hK.out _ _ (by exact ⟨t1', t2'⟩) (fun hHeld2 => ?_)
        clear hK K hHeld
        have hHeld := hHeld2
        clear hHeld2
        try simp only [List.getElem_toArray, List.getElem_cons_zero, List.getElem_cons_succ, Act.put, List.setIfInBounds_toArray, List.set_cons_zero, List.set_cons_succ]
        refine wpAnyH_ready (rs := [12]) (by kernel_rfl) (by simp) ?_
        refine AllReadyH.cons (o := _) rfl (fun K hK => ?_) AllReadyH.nil
        refine step_append_txt (by rfl) (.tmp 142) (.tmp 144) (by rfl) _ _ _ (by rfl) R5 o.data (by rfl) (by have := hGl.out; omega) ?_
        intro a7' c7' w7 R7 hg7
        have hrow7 : ∀ j, (Value.slice a5 (G.length + 2) c5').ownBlock = some j → j ≠ wr.heap.size := fun j hj e => by
          subst e
          rcases hat5 with h5 | h5
          · have := hrow wr.heap.size (by rw [← h5]; exact hj)
            omega
          · rw [h5] at hj
            simp at hj
            omega
        have t1q : w7.cell? ⟨wr.heap.size, 1, none⟩ = some (.int .i64 o.code) := (hg7.cell_far ⟨wr.heap.size, 1, none⟩ (cell_lt t1') (fun e => hrow7 _ e.symm rfl)).trans t1'
        have t2q : w7.cell? ⟨wr.heap.size, 2, none⟩ = some (.string o.data) := (hg7.cell_far ⟨wr.heap.size, 2, none⟩ (cell_lt t2') (fun e => hrow7 _ e.symm rfl)).trans t2'
        refine hK.out _ _ (by exact ⟨t1q, t2q⟩) (fun hHeld2 => ?_)
        clear hK K hHeld
        have hHeld := hHeld2
        clear hHeld2
        try simp only [List.getElem_toArray, List.getElem_cons_zero, List.getElem_cons_succ, Act.put, List.setIfInBounds_toArray, List.set_cons_zero, List.set_cons_succ]
        refine wpAnyH_take (i := 13) (v := ?_) rfl (by kernel_rfl) (by kernel_rfl) (by kernel_rfl) (fun _ _ _ h => h) (Or.inl ⟨by rfl, ?_⟩) (by assumption) ?_
        rotate_left
        · (intro w hSw; (try dsimp only at hSw); go_simp; try with_reducible rfl)
        try simp only [List.getElem_toArray, List.getElem_cons_zero, List.getElem_cons_succ, Act.put, List.setIfInBounds_toArray, List.set_cons_zero, List.set_cons_succ]
        refine wpAnyH_done (by kernel_rfl) ?_ _
        have HG2 : Hid (G ++ [o.code, (o.data.size : Int)] ++ dnums o.data = F ++ optBytes (os.take (k + 1))) := by
          show _ = _
          rw [HS.out, ← List.append_assoc, ← List.append_assoc, ← hG.out]
        have HR7 : Hid (RB w1 w7 (.slice a7' (G ++ [o.code, (o.data.size : Int)] ++ dnums o.data).length c7') (G ++ [o.code, (o.data.size : Int)] ++ dnums o.data).length (G ++ [o.code, (o.data.size : Int)] ++ dnums o.data)) := by
          show RB _ _ _ _ _
          rw [show (G ++ [o.code, (o.data.size : Int)] ++ dnums o.data).length = G.length + 2 + (dnums o.data).length from by simp; omega]
          exact R7
        have hlen7 : (G ++ [o.code, (o.data.size : Int)] ++ dnums o.data).length = G.length + 2 + (dnums o.data).length := by simp; omega
        have HL7 : Hid _ := hlen7
        clear R7 hg7 hrow7 t1q t2q hHeld hr5 ho5 hg5 hat5 R5 t1' t2' HRu bU t1 t2 s1 s2 HRo hrow hlen7
        go_wp2
        go_roundw
        case rel => exact ⟨k + 1, a7', c7', _, by omega, by go_num, by rw [HL7.out], HG2, HR7, HT⟩
        case measure => simp [intOf]; omega
      · obtain rfl : k = n := by omega
        have hGl : Hid (G.length ≤ 240 + k * 257) := by
          show _ ≤ _
          rw [hG.out, List.length_append, hFl]
          have := optBytes_len hAk.out
          have h2 : (os.take k).length ≤ k := List.length_take_le _ _
          have h3 : (os.take k).length * 257 ≤ k * 257 := Nat.mul_le_mul_right _ h2
          omega
        go_wp2_with (at_builtin; refine wpList_append_rb Try.underlying22 info5 (by rfl) (.tmp 146) (.tmp 147) rfl _ _ _ rfl (hRk.out.alloc _) (some ⟨wr.heap.size, 0, none⟩) 1 1 [255] rfl (bs_one wr _ _ rfl (by omega)) (by have := hGl.out; omega) ?_)
        intro a1' c1' wz hR
        have hall : Hid (os.all optB = true) := by
          have := hAk.out
          rw [List.take_of_length_le (by omega)] at this
          exact this
        have HRz : Hid (wz.ownsRow w.heap.size 5 1 (.slice a1' (G.length + 1) c1') (G.length + 1) ((encBytes op xid secs flags ci yi si gi ch os).map (Value.int .u8))) := by
          show World.ownsRow _ _ _ _ _ _ _
          have e : encBytes op xid secs flags ci yi si gi ch os = G ++ [255] := by
            unfold encBytes
            rw [hG.out, List.take_of_length_le (by omega), HFe.out]
          rw [e]
          exact World.ownsRow.mono hR.own (by omega)
        have HBz : Hid (Below w.heap.size w wz) := HB0.out.trans (hR.bel.mono (by omega))
        clear hR x0 x1 x2 x3 x4 x5 x6 x7 x8 x9
        go_wp2
        go_ret2
        exact ⟨.inl ⟨hall.out, a1', G.length + 1, c1', rfl, HRz.out⟩, HBz.out⟩
end Go.Proofs.Ytjoekmcogmfhjaa
