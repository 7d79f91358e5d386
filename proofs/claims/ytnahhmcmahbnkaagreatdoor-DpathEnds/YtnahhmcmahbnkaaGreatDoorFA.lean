/- The rows of the table of fields, and reading and writing a field that has a place of its own. No condition beyond: the State has its 49 cells. -/
import Derived.Test.YtnahhmcmahbnkaaGreatDoorRows
import Derived.WalkKit
import Derived.ScopeJumps
import Derived.WalkMore
import Derived.OpenShut
import Derived.WalkLawsBesides
import Derived.WalkSmall
import Derived.Below
import Derived.Laws.EntriesVeiled
import Derived.Laws.Rows
import Derived.Laws.Tables
import Derived.Laws.ResultCell
import Derived.Deep.WholeRow
import Derived.Deep.MidRow
import Derived.Deep.QuietTactic
import Derived.BigQuiet
namespace Go.Proofs.YtnahhmcmahbnkaaGreatDoor
open Go.RowKit
def rowV (name : ByteArray) (bits of_ : Int) (R S : Value) : Value := .agg #[.string name, .int .i64 bits, .int .i64 of_, R, S]

theorem cell_lt {w : World} {a : Addr} {v : Value} (h : w.cell? a = some v) : a.block < w.heap.size := by
  unfold World.cell? at h
  by_cases hb : a.block < w.heap.size
  · exact hb
  · have : w.heap[a.block]? = none := Array.getElem?_eq_none (by omega)
    simp [this] at h

/-- A whole struct into the block that was made last. -/
theorem wpList_store_new {P : Program} {ops : Array Oper} {rest : List Oper} {op : Oper} {a : Act} {w : World} {Q : Exit → Act → World → Prop} (hgd : op.guard = none) (ty : TypeId) (x y : Operand) (ho : op.op = .store ty x y)
    (c c' : Array Value) (b : Nat) (hb : b = w.heap.size) (hx : a.eval x = .pointer (some ⟨b, 0, none⟩)) (hy : a.eval y = .agg c')
    (hi : (P.info? ty).map (·.size) = some c'.size) (hs : c.size = c'.size) (h1 : c'.all (·.oneCell') = true)
    (h : wpList P ops Q rest (a.put op.dst undef) (w.alloc (.cells c' ty))) : wpList P ops Q (op :: rest) a (w.alloc (.cells c ty)) := by
  subst hb
  refine wpList_plain hgd fun K hK => ?_
  unfold Oper.wp execOp
  simp only [ho, hx, hy, Sem.run_bind, run_storeAt_new w ty c c' hi hs h1]
  exact hK _ _ h

theorem below_drewN {n : Nat} {w w' : World} (h : Below n w w') (k : Nat) : Below n w (w'.drewN k) := ⟨h.os, h.tape, h.output, h.size, h.block⟩
theorem drewN_alloc (w : World) (A : Obj) (n : Nat) : (w.alloc A).drewN n = (w.drewN n).alloc A := rfl
theorem below1 (w : World) (A : Obj) : Below w.heap.size w (w.alloc A) := (Below.refl _ _).alloc (Nat.le_refl _) A
theorem below2 (w : World) (A B : Obj) : Below w.heap.size w ((w.alloc A).alloc B) := (below1 w A).alloc (by simp) B
theorem size49 : (Tryz.prog.info? 38).map (·.size) = some 49 := by kernel_rfl
theorem set_one {cs : Array Value} {i : Nat} {v : Value} (h1 : cs.all (·.oneCell') = true) (hv : v.oneCell' = true) : (cs.setIfInBounds i v).all (·.oneCell') = true := by
  rw [Array.all_eq_true_iff_forall_mem] at *
  intro x hx
  obtain ⟨j, hj, rfl⟩ := Array.mem_iff_getElem.1 hx
  rw [Array.getElem_setIfInBounds]
  split
  · exact hv
  · exact h1 _ (Array.getElem_mem _)
  · simpa using hj
theorem zero49 : (Tryz.prog.info? 38).map (fun i => (i.zero.map fun z => (z.cells.size, z.cells.all (·.oneCell')))) = some (some (49, true)) := by kernel_rfl

theorem two_first (w : World) (A B : Obj) : ((w.alloc A).alloc B).heap[w.heap.size]? = some A := (heap_alloc_old _ _ (by simp)).trans (heap_alloc_new _ _)
theorem two_last (w : World) (A B : Obj) : ((w.alloc A).alloc B).heap[w.heap.size + 1]? = some B := by
  have := heap_alloc_new (w.alloc A) B
  simpa using this

set_option maxHeartbeats 400000 in
theorem number_u64 (name : ByteArray) (bits of_ : Int) (g : Nat) (cap : Array Value) (w : World) : Calls Tryz.prog 156 #[.string name, .int .i64 bits, .int .i64 of_, .func (Fn.func g) #[] cap] w fun e w' =>
    e = .returned (rowV name bits of_ (.func (Fn.func 209) #[] #[.pointer (some ⟨w.heap.size, 0, none⟩)]) (.func (Fn.func 210) #[] #[.pointer (some ⟨w.heap.size, 0, none⟩)])) ∧ w' = (w.alloc (.cells #[.func (Fn.func g) #[] cap] 256)).alloc (.cells #[.string name, .int .i64 bits, .int .i64 of_, .func (Fn.func 209) #[] #[.pointer (some ⟨w.heap.size, 0, none⟩)], .func (Fn.func 210) #[] #[.pointer (some ⟨w.heap.size, 0, none⟩)]] 215) := by
  go_enter Tryz.func156, Tryz.ntmps156
  go_wp2
  exact bodyPost_ret (results_cell_row (p := 8) (ty := 215) rfl _ _ (w.heap.size + 1) 215 _ (0, 0) _ rfl (two_last _ _ _) Tryz.underlying215 rfl (by kernel_rfl)) rfl ⟨rfl, rfl⟩

set_option maxHeartbeats 1000000 in
set_option maxRecDepth 20000 in
theorem read_u64 (k idx : Nat) (cap : Array Value) (hcall : ∀ args W, (callFunc k args).run Tryz.prog W = .ok (.enter k args) W) (Inv : World → Prop) (hk : ∀ W b, Inv W → Calls Tryz.prog k (#[.pointer (some ⟨b, 0, none⟩)] ++ cap) W fun e W' => e = .returned (.pointer (some ⟨b, idx, none⟩)) ∧ ∃ nq, W' = W.drewN nq) (cs : Array Value) (x : Int) (hx : cs[idx]? = some (.int .u64 x)) (p : Nat) (w : World) (hp : w.cell? ⟨p, 0, none⟩ = some (.func (Fn.func k) #[] cap)) (hI : Inv (w.alloc (.cells cs 38))) :
    Calls Tryz.prog 209 #[.agg cs, .pointer (some ⟨p, 0, none⟩)] w fun e w' => e = .returned (.int .u64 x) ∧ Below w.heap.size w w' := by
  have hlt : p < w.heap.size := cell_lt hp
  have HINV : Hid _ := hI
  clear hI
  go_enter Tryz.func209, Tryz.ntmps209
  go_wp2_with fail
  refine (hk _ _ HINV.out).mono ?_
  rintro e w1 ⟨rfl, nq, rfl⟩
  go_wp2
  go_ret
  exact ⟨rfl, below_drewN (below1 _ _) _⟩

set_option maxHeartbeats 1000000 in
set_option maxRecDepth 20000 in
theorem write_u64 (k idx : Nat) (cap : Array Value) (hcall : ∀ args W, (callFunc k args).run Tryz.prog W = .ok (.enter k args) W) (Inv : World → Prop) (hk : ∀ W b, Inv W → Calls Tryz.prog k (#[.pointer (some ⟨b, 0, none⟩)] ++ cap) W fun e W' => e = .returned (.pointer (some ⟨b, idx, none⟩)) ∧ ∃ nq, W' = W.drewN nq) (cs : Array Value) (hs : cs.size = 49) (h1 : cs.all (·.oneCell') = true) (x v : Int) (hx : cs[idx]? = some (.int .u64 x)) (p : Nat) (w : World) (hp : w.cell? ⟨p, 0, none⟩ = some (.func (Fn.func k) #[] cap)) (hI : ∀ A, Inv ((w.alloc (.cells cs 38)).alloc A)) :
    Calls Tryz.prog 210 #[.agg cs, .int .u64 v, .pointer (some ⟨p, 0, none⟩)] w fun e w' => e = .returned (.agg (cs.setIfInBounds idx (.int .u64 v))) ∧ Below w.heap.size w w' := by
  have hlt : p < w.heap.size := cell_lt hp
  have H1 : Hid _ := set_one (i := idx) (v := .int .u64 v) h1 rfl
  have hs' : (cs.setIfInBounds idx (.int .u64 v)).size = 49 := by simpa using hs
  have hi' : (Tryz.prog.info? 38).map (·.size) = some (cs.setIfInBounds idx (.int .u64 v)).size := by rw [hs']; exact size49
  have HS : Hid _ := hs'
  have HI : Hid _ := hi'
  clear hs' hi'
  have HINV : Hid _ := hI
  clear h1 hs hI
  go_enter Tryz.func210, Tryz.ntmps210
  go_wp2_with fail
  refine (hk _ _ (HINV.out _)).mono ?_
  rintro e w1 ⟨rfl, nq, rfl⟩
  have hbw : Below w.heap.size w (w.drewN nq) := below_drewN (Below.refl _ _) _
  have hsz : (w.drewN nq).heap.size = w.heap.size := rfl
  simp only [drewN_alloc]
  rw [← hsz] at hbw ⊢
  have HB : Hid _ := hbw
  clear hbw hp hlt HINV
  generalize w.drewN nq = w2 at HB hsz ⊢
  go_wp2_with (first
    | refine wpList_load_row rfl 38 _ rfl w2.heap.size rfl 38 (cs.setIfInBounds idx (.int .u64 v)) (0, 0) _ (two_first _ _ _) Tryz.underlying38 rfl HI.out ?_
    | refine wpList_store_new rfl 38 _ _ rfl _ (cs.setIfInBounds idx (.int .u64 v)) (w2.heap.size + 1) (by simp) rfl rfl HI.out (HS.out.symm ▸ rfl) H1.out ?_
    | fail)

  refine bodyPost_ret (results_cell_row (p := 5) (ty := 38) rfl _ _ (w2.heap.size + 1) 38 (cs.setIfInBounds idx (.int .u64 v)) (0, 0) _ rfl (two_last _ _ _) Tryz.underlying38 rfl HI.out) rfl ⟨rfl, by rw [← hsz]; exact HB.out.trans (below2 w2 _ _)⟩

set_option maxHeartbeats 400000 in
theorem number_i64 (name : ByteArray) (bits of_ : Int) (g : Nat) (cap : Array Value) (w : World) : Calls Tryz.prog 159 #[.string name, .int .i64 bits, .int .i64 of_, .func (Fn.func g) #[] cap] w fun e w' =>
    e = .returned (rowV name bits of_ (.func (Fn.func 211) #[] #[.pointer (some ⟨w.heap.size, 0, none⟩)]) (.func (Fn.func 212) #[] #[.pointer (some ⟨w.heap.size, 0, none⟩)])) ∧ w' = (w.alloc (.cells #[.func (Fn.func g) #[] cap] 258)).alloc (.cells #[.string name, .int .i64 bits, .int .i64 of_, .func (Fn.func 211) #[] #[.pointer (some ⟨w.heap.size, 0, none⟩)], .func (Fn.func 212) #[] #[.pointer (some ⟨w.heap.size, 0, none⟩)]] 215) := by
  go_enter Tryz.func159, Tryz.ntmps159
  go_wp2
  exact bodyPost_ret (results_cell_row (p := 8) (ty := 215) rfl _ _ (w.heap.size + 1) 215 _ (0, 0) _ rfl (two_last _ _ _) Tryz.underlying215 rfl (by kernel_rfl)) rfl ⟨rfl, rfl⟩

set_option maxHeartbeats 1000000 in
set_option maxRecDepth 20000 in
theorem read_i64 (k idx : Nat) (cap : Array Value) (hcall : ∀ args W, (callFunc k args).run Tryz.prog W = .ok (.enter k args) W) (Inv : World → Prop) (hk : ∀ W b, Inv W → Calls Tryz.prog k (#[.pointer (some ⟨b, 0, none⟩)] ++ cap) W fun e W' => e = .returned (.pointer (some ⟨b, idx, none⟩)) ∧ ∃ nq, W' = W.drewN nq) (cs : Array Value) (x : Int) (hx : cs[idx]? = some (.int .i64 x)) (p : Nat) (w : World) (hp : w.cell? ⟨p, 0, none⟩ = some (.func (Fn.func k) #[] cap)) (hI : Inv (w.alloc (.cells cs 38))) :
    Calls Tryz.prog 211 #[.agg cs, .pointer (some ⟨p, 0, none⟩)] w fun e w' => e = .returned (.int .u64 (IntKind.u64.wrap x)) ∧ Below w.heap.size w w' := by
  have hlt : p < w.heap.size := cell_lt hp
  have HINV : Hid _ := hI
  clear hI
  go_enter Tryz.func211, Tryz.ntmps211
  go_wp2_with fail
  refine (hk _ _ HINV.out).mono ?_
  rintro e w1 ⟨rfl, nq, rfl⟩
  go_wp2
  go_ret
  exact ⟨rfl, below_drewN (below1 _ _) _⟩

set_option maxHeartbeats 1000000 in
set_option maxRecDepth 20000 in
theorem write_i64 (k idx : Nat) (cap : Array Value) (hcall : ∀ args W, (callFunc k args).run Tryz.prog W = .ok (.enter k args) W) (Inv : World → Prop) (hk : ∀ W b, Inv W → Calls Tryz.prog k (#[.pointer (some ⟨b, 0, none⟩)] ++ cap) W fun e W' => e = .returned (.pointer (some ⟨b, idx, none⟩)) ∧ ∃ nq, W' = W.drewN nq) (cs : Array Value) (hs : cs.size = 49) (h1 : cs.all (·.oneCell') = true) (x v : Int) (hx : cs[idx]? = some (.int .i64 x)) (p : Nat) (w : World) (hp : w.cell? ⟨p, 0, none⟩ = some (.func (Fn.func k) #[] cap)) (hI : ∀ A, Inv ((w.alloc (.cells cs 38)).alloc A)) :
    Calls Tryz.prog 212 #[.agg cs, .int .u64 v, .pointer (some ⟨p, 0, none⟩)] w fun e w' => e = .returned (.agg (cs.setIfInBounds idx (.int .i64 (wrap64 v)))) ∧ Below w.heap.size w w' := by
  have hlt : p < w.heap.size := cell_lt hp
  have H1 : Hid _ := set_one (i := idx) (v := .int .i64 (wrap64 v)) h1 rfl
  have hs' : (cs.setIfInBounds idx (.int .i64 (wrap64 v))).size = 49 := by simpa using hs
  have hi' : (Tryz.prog.info? 38).map (·.size) = some (cs.setIfInBounds idx (.int .i64 (wrap64 v))).size := by rw [hs']; exact size49
  have HS : Hid _ := hs'
  have HI : Hid _ := hi'
  clear hs' hi'
  have HINV : Hid _ := hI
  clear h1 hs hI
  go_enter Tryz.func212, Tryz.ntmps212
  go_wp2_with fail
  refine (hk _ _ (HINV.out _)).mono ?_
  rintro e w1 ⟨rfl, nq, rfl⟩
  have hbw : Below w.heap.size w (w.drewN nq) := below_drewN (Below.refl _ _) _
  have hsz : (w.drewN nq).heap.size = w.heap.size := rfl
  simp only [drewN_alloc]
  rw [← hsz] at hbw ⊢
  have HB : Hid _ := hbw
  clear hbw hp hlt HINV
  generalize w.drewN nq = w2 at HB hsz ⊢
  go_wp2_with (first
    | refine wpList_load_row rfl 38 _ rfl w2.heap.size rfl 38 (cs.setIfInBounds idx (.int .i64 (wrap64 v))) (0, 0) _ (two_first _ _ _) Tryz.underlying38 rfl HI.out ?_
    | refine wpList_store_new rfl 38 _ _ rfl _ (cs.setIfInBounds idx (.int .i64 (wrap64 v))) (w2.heap.size + 1) (by simp) rfl rfl HI.out (HS.out.symm ▸ rfl) H1.out ?_
    | fail)

  refine bodyPost_ret (results_cell_row (p := 5) (ty := 38) rfl _ _ (w2.heap.size + 1) 38 (cs.setIfInBounds idx (.int .i64 (wrap64 v))) (0, 0) _ rfl (two_last _ _ _) Tryz.underlying38 rfl HI.out) rfl ⟨rfl, by rw [← hsz]; exact HB.out.trans (below2 w2 _ _)⟩

set_option maxHeartbeats 400000 in
theorem number_u32 (name : ByteArray) (bits of_ : Int) (g : Nat) (cap : Array Value) (w : World) : Calls Tryz.prog 165 #[.string name, .int .i64 bits, .int .i64 of_, .func (Fn.func g) #[] cap] w fun e w' =>
    e = .returned (rowV name bits of_ (.func (Fn.func 213) #[] #[.pointer (some ⟨w.heap.size, 0, none⟩)]) (.func (Fn.func 214) #[] #[.pointer (some ⟨w.heap.size, 0, none⟩)])) ∧ w' = (w.alloc (.cells #[.func (Fn.func g) #[] cap] 261)).alloc (.cells #[.string name, .int .i64 bits, .int .i64 of_, .func (Fn.func 213) #[] #[.pointer (some ⟨w.heap.size, 0, none⟩)], .func (Fn.func 214) #[] #[.pointer (some ⟨w.heap.size, 0, none⟩)]] 215) := by
  go_enter Tryz.func165, Tryz.ntmps165
  go_wp2
  exact bodyPost_ret (results_cell_row (p := 8) (ty := 215) rfl _ _ (w.heap.size + 1) 215 _ (0, 0) _ rfl (two_last _ _ _) Tryz.underlying215 rfl (by kernel_rfl)) rfl ⟨rfl, rfl⟩

set_option maxHeartbeats 1000000 in
set_option maxRecDepth 20000 in
theorem read_u32 (k idx : Nat) (cap : Array Value) (hcall : ∀ args W, (callFunc k args).run Tryz.prog W = .ok (.enter k args) W) (Inv : World → Prop) (hk : ∀ W b, Inv W → Calls Tryz.prog k (#[.pointer (some ⟨b, 0, none⟩)] ++ cap) W fun e W' => e = .returned (.pointer (some ⟨b, idx, none⟩)) ∧ ∃ nq, W' = W.drewN nq) (cs : Array Value) (x : Int) (hx : cs[idx]? = some (.int .u32 x)) (_hxb : 0 ≤ x ∧ x ≤ 4294967295) (p : Nat) (w : World) (hp : w.cell? ⟨p, 0, none⟩ = some (.func (Fn.func k) #[] cap)) (hI : Inv (w.alloc (.cells cs 38))) :
    Calls Tryz.prog 213 #[.agg cs, .pointer (some ⟨p, 0, none⟩)] w fun e w' => e = .returned (.int .u64 x) ∧ Below w.heap.size w w' := by
  have hlt : p < w.heap.size := cell_lt hp
  have HINV : Hid _ := hI
  clear hI
  go_enter Tryz.func213, Tryz.ntmps213
  go_wp2_with fail
  refine (hk _ _ HINV.out).mono ?_
  rintro e w1 ⟨rfl, nq, rfl⟩
  go_wp2
  go_ret
  exact ⟨rfl, below_drewN (below1 _ _) _⟩

set_option maxHeartbeats 1000000 in
set_option maxRecDepth 20000 in
theorem write_u32 (k idx : Nat) (cap : Array Value) (hcall : ∀ args W, (callFunc k args).run Tryz.prog W = .ok (.enter k args) W) (Inv : World → Prop) (hk : ∀ W b, Inv W → Calls Tryz.prog k (#[.pointer (some ⟨b, 0, none⟩)] ++ cap) W fun e W' => e = .returned (.pointer (some ⟨b, idx, none⟩)) ∧ ∃ nq, W' = W.drewN nq) (cs : Array Value) (hs : cs.size = 49) (h1 : cs.all (·.oneCell') = true) (x v : Int) (hx : cs[idx]? = some (.int .u32 x)) (_hxb : 0 ≤ x ∧ x ≤ 4294967295) (p : Nat) (w : World) (hp : w.cell? ⟨p, 0, none⟩ = some (.func (Fn.func k) #[] cap)) (hI : ∀ A, Inv ((w.alloc (.cells cs 38)).alloc A)) :
    Calls Tryz.prog 214 #[.agg cs, .int .u64 v, .pointer (some ⟨p, 0, none⟩)] w fun e w' => e = .returned (.agg (cs.setIfInBounds idx (.int .u32 (v % 4294967296)))) ∧ Below w.heap.size w w' := by
  have hlt : p < w.heap.size := cell_lt hp
  have H1 : Hid _ := set_one (i := idx) (v := .int .u32 (v % 4294967296)) h1 rfl
  have hs' : (cs.setIfInBounds idx (.int .u32 (v % 4294967296))).size = 49 := by simpa using hs
  have hi' : (Tryz.prog.info? 38).map (·.size) = some (cs.setIfInBounds idx (.int .u32 (v % 4294967296))).size := by rw [hs']; exact size49
  have HS : Hid _ := hs'
  have HI : Hid _ := hi'
  clear hs' hi'
  have HINV : Hid _ := hI
  clear h1 hs hI
  go_enter Tryz.func214, Tryz.ntmps214
  go_wp2_with fail
  refine (hk _ _ (HINV.out _)).mono ?_
  rintro e w1 ⟨rfl, nq, rfl⟩
  have hbw : Below w.heap.size w (w.drewN nq) := below_drewN (Below.refl _ _) _
  have hsz : (w.drewN nq).heap.size = w.heap.size := rfl
  simp only [drewN_alloc]
  rw [← hsz] at hbw ⊢
  have HB : Hid _ := hbw
  clear hbw hp hlt HINV
  generalize w.drewN nq = w2 at HB hsz ⊢
  go_wp2_with (first
    | refine wpList_load_row rfl 38 _ rfl w2.heap.size rfl 38 (cs.setIfInBounds idx (.int .u32 (v % 4294967296))) (0, 0) _ (two_first _ _ _) Tryz.underlying38 rfl HI.out ?_
    | refine wpList_store_new rfl 38 _ _ rfl _ (cs.setIfInBounds idx (.int .u32 (v % 4294967296))) (w2.heap.size + 1) (by simp) rfl rfl HI.out (HS.out.symm ▸ rfl) H1.out ?_
    | fail)

  refine bodyPost_ret (results_cell_row (p := 5) (ty := 38) rfl _ _ (w2.heap.size + 1) 38 (cs.setIfInBounds idx (.int .u32 (v % 4294967296))) (0, 0) _ rfl (two_last _ _ _) Tryz.underlying38 rfl HI.out) rfl ⟨rfl, by rw [← hsz]; exact HB.out.trans (below2 w2 _ _)⟩
end Go.Proofs.YtnahhmcmahbnkaaGreatDoor
