/- Parts of the proof, in one text. -/
import Derived.Test.YtgonckbdkgiddaaL4e
import Derived.Test.YtgonckbdkgiddaaL4n
import Derived.Deep.RegionHeld3
namespace Go.Proofs.Ytgonckbdkgiddaa
open Go.RowKit
/-- A place that was not there at w. -/
def FrA (w : World) (a : Option Addr) : Prop := ∀ x, a = some x → w.heap.size ≤ x.block
theorem EncS.fr {w W V : World} {g N cap : Nat} {B : List Int} (h : EncS W V g N cap B) (hw : w.heap.size ≤ W.heap.size) : FrA w (some ⟨g, 0, none⟩) := by
  intro x hx
  cases hx
  rcases h.own.2 with ⟨h0, _⟩ | ⟨g', cap', cur, e, h1, _⟩
  · cases h0
  · cases e
    exact Nat.le_trans hw h1
end Go.Proofs.Ytgonckbdkgiddaa

namespace Go.Proofs.Ytgonckbdkgiddaa
open Go.RowKit Go.Lib

/-- A number in two bytes, made by the document's two. -/
theorem two_any (x : Int) (hx : 0 ≤ x ∧ x ≤ 9223372036854775807) (w : World) :
    Calls Try.prog 49 #[.int .i64 x] w fun e w' => e = .returned (.slice (some ⟨w.heap.size, 0, none⟩) 2 2) ∧ w' = w.alloc (.cells ((be x 2).map (Value.int .u8)).toArray 5) := by
  have hu : IntKind.u64.wrap x = x := by simp [IntKind.wrap, IntKind.bits, IntKind.signed]; omega
  go_enter Try.func49, Try.ntmps49
  go_wp2_with fail
  refine (made2 x (by omega) _).mono ?_
  rintro e w' ⟨rfl, hw'⟩
  rw [hw']
  clear hw'
  go_wp2
  go_ret
  exact ⟨rfl, rfl⟩
end Go.Proofs.Ytgonckbdkgiddaa

namespace Go.Proofs.Ytgonckbdkgiddaa
open Go.RowKit Go.Lib
set_option linter.unusedSimpArgs false
end Go.Proofs.Ytgonckbdkgiddaa

namespace Go.Proofs.Ytgonckbdkgiddaa
open Go.RowKit Go.Lib
/-- Where z says, a pair of noughts lies; all below w1 is kept. -/
structure Zr (z : Option Nat) (w1 W : World) : Prop where
  bel : Below w1.heap.size w1 W
  at0 : ∀ b, z = some b → W.heap[b]? = some (.cells #[.int .u8 0, .int .u8 0] 5)
/-- A row under way, apart from the pair. -/
structure UR (z : Option Nat) (w1 W : World) (v : Value) (n : Nat) (xs : List Int) : Prop where
  rb : RB w1 W v n xs
  zr : Zr z w1 W
  ap : ∀ b, z = some b → v.ownBlock ≠ some b
theorem heap_some_lt {W : World} {b : Nat} {o : Obj} (h : W.heap[b]? = some o) : b < W.heap.size := by
  rcases Nat.lt_or_ge b W.heap.size with h1 | h1
  · exact h1
  · rw [Array.getElem?_eq_none h1] at h; cases h
theorem heap_alloc_old {W : World} {b : Nat} {o : Obj} (o' : Obj) (h : W.heap[b]? = some o) : (W.alloc o').heap[b]? = some o := by
  rw [← h]
  exact (below1 W o').block b (heap_some_lt h)
theorem Zr.alloc {z : Option Nat} {w1 W : World} (h : Zr z w1 W) (o : Obj) : Zr z w1 (W.alloc o) := ⟨h.bel.alloc h.bel.size _, fun b hb => heap_alloc_old o (h.at0 b hb)⟩
theorem UR.alloc {z : Option Nat} {w1 W : World} {v : Value} {n : Nat} {xs : List Int} (h : UR z w1 W v n xs) (o : Obj) : UR z w1 (W.alloc o) v n xs := ⟨⟨h.rb.own.alloc _, h.rb.bel.alloc h.rb.bel.size _⟩, h.zr.alloc o, h.ap⟩
theorem Zr.first {z : Option Nat} {w1 W : World} (h : Zr z w1 W) (x : Int) (n : Nat) (hn : n ≤ 6) : UR z w1 (W.alloc (.cells ((be x n).map (Value.int .u8)).toArray 5)) (.slice (some ⟨W.heap.size, 0, none⟩) n n) n (be x n) := by
  refine ⟨⟨own_made W _ _ x h.bel.size (by omega), h.bel.alloc h.bel.size _⟩, h.alloc _, fun b hb e => ?_⟩
  have h1 := heap_some_lt (h.at0 b hb)
  have : W.heap.size = b := by injection e
  omega
theorem Zr.build {w1 W : World} (h : Zr none w1 W) : Zr (some W.heap.size) w1 (W.alloc (.cells #[.int .u8 0, .int .u8 0] 5)) :=
  ⟨h.bel.alloc h.bel.size _, fun b hb => by injection hb with hb; subst hb; exact heap_alloc_new W _⟩
theorem UR.build {w1 W : World} {v : Value} {n : Nat} {xs : List Int} (h : UR none w1 W v n xs) : UR (some W.heap.size) w1 (W.alloc (.cells #[.int .u8 0, .int .u8 0] 5)) v n xs := by
  refine ⟨⟨h.rb.own.alloc _, h.rb.bel.alloc h.rb.bel.size _⟩, h.zr.build, fun b hb e => ?_⟩
  injection hb with hb
  have := (World.ownsRow.lt h.rb.own b e).2
  omega
theorem Zr.bs {b : Nat} {w1 W : World} (h : Zr (some b) w1 W) : BS W (some ⟨b, 0, none⟩) 2 [0, 0] := by
  have h1 := h.at0 b rfl
  refine ⟨rfl, fun i => ?_, by omega, .inr ⟨b, 0, rfl, fun i hi => ?_⟩⟩
  · rcases i with _ | _ | i <;> simp
  · have hi2 : i < 2 := by simpa using hi
    rcases i with _ | _ | i
    · simp [World.cell?, h1]
    · simp [World.cell?, h1]
    · omega
theorem two_first {z : Option Nat} {w1 W : World} (h : Zr z w1 W) (x : Int) (hx : 0 ≤ x ∧ x ≤ 9223372036854775807) :
    Calls Try.prog 49 #[.int .i64 x] W fun e w' => ∃ a, e = .returned (.slice a 2 2) ∧ UR z w1 w' (.slice a 2 2) 2 (be x 2) := by
  refine (two_any x hx W).mono ?_
  rintro e w' ⟨rfl, rfl⟩
  exact ⟨_, rfl, h.first x 2 (by omega)⟩
theorem two_next {z : Option Nat} {w1 W : World} {v : Value} {n : Nat} {xs : List Int} (h : UR z w1 W v n xs) (x : Int) (hx : 0 ≤ x ∧ x ≤ 9223372036854775807) :
    Calls Try.prog 49 #[.int .i64 x] W fun e w' => ∃ a, e = .returned (.slice a 2 2) ∧ UR z w1 w' v n xs ∧ BS w' a 2 (be x 2) := by
  refine (two_any x hx W).mono ?_
  rintro e w' ⟨rfl, rfl⟩
  exact ⟨_, rfl, h.alloc _, own_bs (own_made W _ 2 x (Nat.le_refl _) (by omega)) (be_bd _ _) (by omega)⟩
theorem four_next {z : Option Nat} {w1 W : World} {v : Value} {n : Nat} {xs : List Int} (h : UR z w1 W v n xs) (x : Int) (hx : 0 ≤ x ∧ x ≤ 18446744073709551615) :
    Calls Try.prog 21 #[.int .u64 x, .int .i64 4] W fun e w' => ∃ a, e = .returned (.slice a 4 4) ∧ UR z w1 w' v n xs ∧ BS w' a 4 (be x 4) := by
  refine (made4 x hx W).mono ?_
  rintro e w' ⟨rfl, rfl⟩
  exact ⟨_, rfl, h.alloc _, own_bs (own_made W _ 4 x (Nat.le_refl _) (by omega)) (be_bd _ _) (by omega)⟩
theorem ur_step {z : Option Nat} {w1 W w' : World} {v v' : Value} {n m : Nat} {xs zs : List Int} (h : UR z w1 W v n xs) (h1 : w'.ownsRow w1.heap.size 5 1 v' (n + m) ((xs ++ zs).map (Value.int .u8))) (h2 : W.grownBy w' v.ownBlock) (hn : 2 < n + m) : UR z w1 w' v' (n + m) (xs ++ zs) := by
  have r := rb_step h.rb h1 h2
  have k : ∀ b, z = some b → w'.heap[b]? = some (.cells #[.int .u8 0, .int .u8 0] 5) := fun b hb => by
    rw [h2.block b (heap_some_lt (h.zr.at0 b hb)) (fun e => h.ap b hb e.symm)]
    exact h.zr.at0 b hb
  refine ⟨r, ⟨r.bel, k⟩, fun b hb e => ?_⟩
  rcases h1.2 with ⟨-, h0⟩ | ⟨g, cap', cur, e1, _, hcells, hnc, _, hsz, _⟩
  · omega
  · have e2 : g = b := by rw [e1] at e; injection e
    subst e2
    rw [k g hb] at hcells
    injection hcells with hcells
    injection hcells with hcells
    have h2 : cur.size = 2 := by rw [← hcells]; rfl
    omega
theorem step_append_ur {P : Program} (hP : P.underlying 26 = some (.slice 5)) (hi5 : (P.info? 5).map (fun i => (i.zero, i.size, i.bytes)) = some (some (.int .u8 0), 1, 1)) {z : Option Nat} {w1 w : World} {ops : Array Oper} {o : Oper} {act : Act} {K : Act → World → Prop} {Q : Exit → Act → World → Prop} {E : Prop} (hgd : o.guard = none) (s x : Operand)
    (ho : o.op = .call { callee := .builtin .append, args := #[s, x], argTypes := #[26, 26] })
    (v : Value) (n : Nat) (xs : List Int) (hs : act.eval s = v) (hr : UR z w1 w v n xs)
    (a : Option Addr) (m c : Nat) (zs : List Int) (hx : act.eval x = .slice a m c) (hbs : BS w a m zs) (hsum : n + m ≤ 140737488355328) (hn : 2 < n + m)
    (h : ∀ a' cap' w', UR z w1 w' (.slice a' (n + m) cap') (n + m) (xs ++ zs) → K (act.put o.dst (.slice a' (n + m) cap')) w') :
    if Region.wanted o (yielded ops act.tmps) = true then Oper.wp P o act w K Q else E := by
  have hw : Region.wanted o (yielded ops act.tmps) = true := by simp [Region.wanted, hgd]
  rw [if_pos hw]
  obtain ⟨i0, hi, hz0, hz1, hz2⟩ := info_parts hi5
  obtain ⟨v', w', hrun, h2, h3⟩ := run_append_bs (P := P) w w1.heap.size 26 o.type 5 i0 hP hi hz0 hz1 hz2 v n xs hr.rb.own c hbs hsum hr.rb.bel.size
  obtain ⟨a', cap', rfl, _⟩ := own_form h2
  unfold Oper.wp execOp
  simp only [ho, resolve, invoke, builtin, Sem.run_bind, Sem.run_pure, Result.andThen_ok, List.map_toArray, List.map_cons, List.map_nil, hs, hx, hrun]
  exact h a' cap' w' (ur_step hr h2 h3 hn)
end Go.Proofs.Ytgonckbdkgiddaa
