/- Parts of the proof, in one text. -/
import Derived.Test.YtgonckbdkgiddaaVLL4x0
import Derived.Test.YtgonckbdkgiddaaVLL4x1
import Derived.Test.YtgonckbdkgiddaaVLL4x2
import Derived.Test.YtgonckbdkgiddaaVLL4x3a
import Derived.Test.YtgonckbdkgiddaaVLL4x3d
import Derived.Test.YtgonckbdkgiddaaVLL4x3e
import Derived.Test.YtgonckbdkgiddaaVLL4x3f
import Derived.Test.YtgonckbdkgiddaaVLL4f
import Derived.Lib.BufferWrite
namespace Go.Proofs.Ytgonckbdkgiddaa
open Go.RowKit
attribute [local go_sem ↓] Go.wp_at_zero Go.wp_at_succ
set_option maxHeartbeats 2000000 in
set_option maxRecDepth 20000 in
theorem check_none (k ty co re sp dp : Int) (ns : Bool) (sq ak fl wi ur : Int) (os ds : List Int) (w : World) (h0 : (k == 0) = false) (h1 : (k == 1) = false) (h2 : (k == 2) = false) (h3 : (k == 3) = false) :
    Calls Try.prog 38 #[l4V k ty co re sp dp ns sq ak fl wi ur os ds] w fun e w' => e = .returned (.int .i64 1) ∧ Below w.heap.size w w' := by
  unfold l4V
  go_enter Try.func38, Try.ntmps38
  go_wp2_with fail
  refine scope_from ?_
  go_wp2_with fail
  go_step3
  show FromLabel _ _ _ _ _ _
  refine from_label rfl ?_
  go_wp2_with fail
  simp only [Exit.jumpTo]
  go_ret
  exact ⟨rfl, below2 w _ _⟩
theorem l4check_any (k ty co re sp dp : Int) (ns : Bool) (sq ak fl wi ur : Int) (os ds : List Int) (w : World) (hd : ds.length ≤ 140737488355328) :
    Calls Try.prog 38 #[l4V k ty co re sp dp ns sq ak fl wi ur os ds] w fun e w' => e = .returned (.int .i64 (if l4Ok k ty co re sp dp ns sq ak fl wi ur (strOfNums os) (strOfNums ds) = true then 0 else 1)) ∧ Below w.heap.size w w' := by
  have s1 := strOfNums_size os
  have s2 := strOfNums_size ds
  by_cases e0 : k = 0
  · subst e0
    have hq : ∀ W, (binOp .neq 48 (.agg #[.int .i64 0, .int .i64 ty, .int .i64 co, .int .u32 re, .int .i64 sp, .int .i64 dp, .bool ns, .int .u32 sq, .int .u32 ak, .int .i64 fl, .int .i64 wi, .int .i64 ur, .string (strOfNums os), .string (strOfNums ds)]) (.agg #[.int .i64 0, .int .i64 0, .int .i64 0, .int .u32 0, .int .i64 0, .int .i64 0, .bool false, .int .u32 0, .int .u32 0, .int .i64 0, .int .i64 0, .int .i64 0, .string ⟨#[]⟩, .string (strOfNums ds)])).run Try.prog W = .ok (.bool (!ownOk 0 ty co re sp dp ns sq ak fl wi ur (strOfNums os))) W := fun W => by
      rw [neq14]
      congr 3
      simp [ownOk]
    unfold l4Ok
    cases ho : ownOk 0 ty co re sp dp ns sq ak fl wi ur (strOfNums os)
    · rw [ho] at hq
      exact check0_a ty co re sp dp ns sq ak fl wi ur os ds w hq
    rw [ho] at hq
    cases hn : numsOk ty co sp dp fl wi ur
    · exact check0_b ty co re sp dp ns sq ak fl wi ur os ds w hq hn
    by_cases h40 : 40 < os.length
    · rw [decide_eq_true (by omega)]
      exact check0_c ty co re sp dp ns sq ak fl wi ur os ds w hq hn h40
    rw [decide_eq_false (by omega : ¬ 40 < (strOfNums os).size), s1, s2]
    cases hr : ((os.length : Int) % 4 != 0)
    · by_cases ht : 65515 < fixV 0 + os.length + ds.length
      · rw [decide_eq_true ht]
        exact check0_e ty co re sp dp ns sq ak fl wi ur os ds w hq hn (by omega) hr hd ht
      · rw [decide_eq_false ht]
        exact check0_f ty co re sp dp ns sq ak fl wi ur os ds w hq hn (by omega) hr hd ht
    · exact check0_d ty co re sp dp ns sq ak fl wi ur os ds w hq hn (by omega) hr
  by_cases e1 : k = 1
  · subst e1
    have hq : ∀ W, (binOp .neq 48 (.agg #[.int .i64 1, .int .i64 ty, .int .i64 co, .int .u32 re, .int .i64 sp, .int .i64 dp, .bool ns, .int .u32 sq, .int .u32 ak, .int .i64 fl, .int .i64 wi, .int .i64 ur, .string (strOfNums os), .string (strOfNums ds)]) (.agg #[.int .i64 1, .int .i64 ty, .int .i64 co, .int .u32 re, .int .i64 0, .int .i64 0, .bool false, .int .u32 0, .int .u32 0, .int .i64 0, .int .i64 0, .int .i64 0, .string ⟨#[]⟩, .string (strOfNums ds)])).run Try.prog W = .ok (.bool (!ownOk 1 ty co re sp dp ns sq ak fl wi ur (strOfNums os))) W := fun W => by
      rw [neq14]
      congr 3
      simp [ownOk]
    unfold l4Ok
    cases ho : ownOk 1 ty co re sp dp ns sq ak fl wi ur (strOfNums os)
    · rw [ho] at hq
      exact check1_a ty co re sp dp ns sq ak fl wi ur os ds w hq
    rw [ho] at hq
    cases hn : numsOk ty co sp dp fl wi ur
    · exact check1_b ty co re sp dp ns sq ak fl wi ur os ds w hq hn
    by_cases h40 : 40 < os.length
    · rw [decide_eq_true (by omega)]
      exact check1_c ty co re sp dp ns sq ak fl wi ur os ds w hq hn h40
    rw [decide_eq_false (by omega : ¬ 40 < (strOfNums os).size), s1, s2]
    cases hr : ((os.length : Int) % 4 != 0)
    · by_cases ht : 65515 < fixV 1 + os.length + ds.length
      · rw [decide_eq_true ht]
        exact check1_e ty co re sp dp ns sq ak fl wi ur os ds w hq hn (by omega) hr hd ht
      · rw [decide_eq_false ht]
        exact check1_f ty co re sp dp ns sq ak fl wi ur os ds w hq hn (by omega) hr hd ht
    · exact check1_d ty co re sp dp ns sq ak fl wi ur os ds w hq hn (by omega) hr
  by_cases e2 : k = 2
  · subst e2
    have hq : ∀ W, (binOp .neq 48 (.agg #[.int .i64 2, .int .i64 ty, .int .i64 co, .int .u32 re, .int .i64 sp, .int .i64 dp, .bool ns, .int .u32 sq, .int .u32 ak, .int .i64 fl, .int .i64 wi, .int .i64 ur, .string (strOfNums os), .string (strOfNums ds)]) (.agg #[.int .i64 2, .int .i64 0, .int .i64 0, .int .u32 0, .int .i64 sp, .int .i64 dp, .bool ns, .int .u32 0, .int .u32 0, .int .i64 0, .int .i64 0, .int .i64 0, .string ⟨#[]⟩, .string (strOfNums ds)])).run Try.prog W = .ok (.bool (!ownOk 2 ty co re sp dp ns sq ak fl wi ur (strOfNums os))) W := fun W => by
      rw [neq14]
      congr 3
      simp [ownOk]
    unfold l4Ok
    cases ho : ownOk 2 ty co re sp dp ns sq ak fl wi ur (strOfNums os)
    · rw [ho] at hq
      exact check2_a ty co re sp dp ns sq ak fl wi ur os ds w hq
    rw [ho] at hq
    cases hn : numsOk ty co sp dp fl wi ur
    · exact check2_b ty co re sp dp ns sq ak fl wi ur os ds w hq hn
    by_cases h40 : 40 < os.length
    · rw [decide_eq_true (by omega)]
      exact check2_c ty co re sp dp ns sq ak fl wi ur os ds w hq hn h40
    rw [decide_eq_false (by omega : ¬ 40 < (strOfNums os).size), s1, s2]
    cases hr : ((os.length : Int) % 4 != 0)
    · by_cases ht : 65515 < fixV 2 + os.length + ds.length
      · rw [decide_eq_true ht]
        exact check2_e ty co re sp dp ns sq ak fl wi ur os ds w hq hn (by omega) hr hd ht
      · rw [decide_eq_false ht]
        exact check2_f ty co re sp dp ns sq ak fl wi ur os ds w hq hn (by omega) hr hd ht
    · exact check2_d ty co re sp dp ns sq ak fl wi ur os ds w hq hn (by omega) hr
  by_cases e3 : k = 3
  · subst e3
    have hq : ∀ W, (binOp .neq 48 (.agg #[.int .i64 3, .int .i64 ty, .int .i64 co, .int .u32 re, .int .i64 sp, .int .i64 dp, .bool ns, .int .u32 sq, .int .u32 ak, .int .i64 fl, .int .i64 wi, .int .i64 ur, .string (strOfNums os), .string (strOfNums ds)]) (.agg #[.int .i64 3, .int .i64 0, .int .i64 0, .int .u32 0, .int .i64 sp, .int .i64 dp, .bool false, .int .u32 sq, .int .u32 ak, .int .i64 fl, .int .i64 wi, .int .i64 ur, .string (strOfNums os), .string (strOfNums ds)])).run Try.prog W = .ok (.bool (!ownOk 3 ty co re sp dp ns sq ak fl wi ur (strOfNums os))) W := fun W => by
      rw [neq14]
      congr 3
      simp [ownOk]
    unfold l4Ok
    cases ho : ownOk 3 ty co re sp dp ns sq ak fl wi ur (strOfNums os)
    · rw [ho] at hq
      exact check3_a ty co re sp dp ns sq ak fl wi ur os ds w hq
    rw [ho] at hq
    cases hn : numsOk ty co sp dp fl wi ur
    · exact check3_b ty co re sp dp ns sq ak fl wi ur os ds w hq hn
    by_cases h40 : 40 < os.length
    · rw [decide_eq_true (by omega)]
      exact check3_c ty co re sp dp ns sq ak fl wi ur os ds w hq hn h40
    rw [decide_eq_false (by omega : ¬ 40 < (strOfNums os).size), s1, s2]
    cases hr : ((os.length : Int) % 4 != 0)
    · by_cases ht : 65515 < fixV 3 + os.length + ds.length
      · rw [decide_eq_true ht]
        exact check3_e ty co re sp dp ns sq ak fl wi ur os ds w hq hn (by omega) hr hd ht
      · rw [decide_eq_false ht]
        exact check3_f ty co re sp dp ns sq ak fl wi ur os ds w hq hn (by omega) hr hd ht
    · exact check3_d ty co re sp dp ns sq ak fl wi ur os ds w hq hn (by omega) hr
  · have hn : l4Ok k ty co re sp dp ns sq ak fl wi ur (strOfNums os) (strOfNums ds) = false := by
      simp [l4Ok, ownOk, e0, e1, e2, e3]
    rw [hn]
    exact check_none k ty co re sp dp ns sq ak fl wi ur os ds w (by simp [e0]) (by simp [e1]) (by simp [e2]) (by simp [e3])
end Go.Proofs.Ytgonckbdkgiddaa

namespace Go.Proofs.Ytgonckbdkgiddaa
open Go.RowKit Go.Lib

/-- A row of bytes, made whole and partly filled. -/
def RowB (V : World) (g : Nat) (L : List Int) : Prop := V.heap[g]? = some (.cells (L.map (Value.int .u8)).toArray 5 (0, 0))
theorem made_row (n : Nat) : (madeCells #[.int .u8 0] n) = ((List.replicate n (0 : Int)).map (Value.int .u8)).toArray := by
  apply Array.ext
  · simp [madeCells]
  · intro i h1 h2
    simp [madeCells, Nat.mod_one]
theorem size5 : (Try.prog.info? 5).map (·.size) = some 1 := by kernel_rfl
/-- A row of bytes copied into a row. -/
theorem copy_rowB (V : World) (g N : Nat) (L : List Int) (x : Addr) (n c : Nat) (zs : List Int) (hr : RowB V g L) (hL : L.length = N) (hb : BS V (some x) n zs) (hn : n ≤ N) (hp : n = 0 ∨ ∃ b off, x = ⟨b, off, none⟩) :
    ∃ V', (Builtin.copy_ #[26, 26] 3 #[.slice (some ⟨g, 0, none⟩) N N, .slice (some x) n c]).run Try.prog V = .ok (.int .i64 (n : Int)) V' ∧ RowB V' g (zs ++ L.drop n) ∧ Below g V V' := by
  have hl := hb.len
  refine ⟨_, (run_copy_row (P := Try.prog) V 26 26 3 5 g 0 N N x n c (L.map (Value.int .u8)).toArray 5 (zs.map (Value.int .u8)) Try.underlying26 size5 hr ?_ ?_ ?_ (ints_oneCell _ _)).trans (by rw [List.length_map, hl]; rfl), ?_, ?_⟩
  · rw [List.length_map, hl]; exact (Nat.min_eq_left hn).symm
  · intro j v hv
    obtain ⟨hj, rfl⟩ := map_get hv
    rcases hb.cells with h0 | ⟨b, off, e, hc⟩
    · omega
    · cases e; rw [plain_add]; exact hc j hj
  · simp; omega
  · unfold RowB
    rw [setRow_heap _ _ _ _ 5 _ hr]
    simp
  · exact below_setRow (Below.refl _ _) (Nat.le_refl _) _
/-- A text copied into a row, behind some of it. -/
theorem copy_strB (V : World) (g N b : Nat) (L : List Int) (zs : List Int) (hf : ∀ i, 0 ≤ zs.getD i 0 ∧ zs.getD i 0 ≤ 255) (hr : RowB V g L) (hL : L.length = N) (hb : b + zs.length ≤ N) :
    ∃ V', (Builtin.copy_ #[26, 9] 3 #[.slice (some ⟨g, b, none⟩) (N - b) (N - b), .string (strOfNums zs)]).run Try.prog V = .ok (.int .i64 (zs.length : Int)) V' ∧ RowB V' g (L.take b ++ zs ++ L.drop (b + zs.length)) ∧ Below g V V' := by
  have hsz := strOfNums_size zs
  refine ⟨_, (run_copy_row_string (P := Try.prog) V 26 9 3 5 g b (N - b) (N - b) (strOfNums zs) _ 5 Try.underlying26 size5 hr (by omega) (by simp; omega)).trans (by rw [hsz]; rfl), ?_, ?_⟩
  · unfold RowB
    rw [setRow_heap _ _ _ _ 5 _ hr]
    rw [show byteCells (strOfNums zs).data.toList = zs.map (Value.int .u8) from strCells_nums hf]
    simp
  · exact below_setRow (Below.refl _ _) (Nat.le_refl _) _
theorem copy_strE (V : World) (g : Nat) (zs : List Int) (h0 : zs.length = 0) :
    (Builtin.copy_ #[26, 9] 3 #[.slice (some ⟨g, 0, none⟩) 0 0, .string (strOfNums zs)]).run Try.prog V = .ok (.int .i64 (zs.length : Int)) V := by
  have := run_copy_empty_string (P := Try.prog) V 26 9 3 5 (some ⟨g, 0, none⟩) 0 0 (strOfNums zs) Try.underlying26 (by rw [size5]; rfl) (by rw [strOfNums_size]; exact h0)
  rw [this, h0]; rfl
theorem checkAt_any (k : Int) (w : World) : Calls Try.prog 43 #[.int .i64 k] w fun e w' => e = .returned (.int .i64 (if k = 1 then 2 else if k = 2 then 6 else 16)) ∧ w' = w := by
  by_cases h1 : k = 1
  · subst h1
    go_enter Try.func43, Try.ntmps43
    go_wp2
    go_ret
    exact ⟨rfl, rfl⟩
  by_cases h2 : k = 2
  · subst h2
    go_enter Try.func43, Try.ntmps43
    go_wp2
    go_ret
    exact ⟨rfl, rfl⟩
  rw [if_neg h1, if_neg h2]
  have e1 : (k == 1) = false := by simp [h1]
  have e2 : (k == 2) = false := by simp [h2]
  clear h1 h2
  go_enter Try.func43, Try.ntmps43
  go_wp2
  go_ret
  exact ⟨rfl, rfl⟩
/-- Where a kind's check sum stands. -/
def chkAt (k : Int) : Nat := if k = 1 then 2 else if k = 2 then 6 else 16
/-- The check sum of a packet whose bytes, with none, are these. -/
def chkC (src dst k : Int) (B : List Int) : Int := if k = 2 ∧ sumV src dst k B = 65535 then 65535 else 65535 - sumV src dst k B
def setC (src dst k : Int) (B : List Int) : List Int := (B.set (chkAt k) (chkC src dst k B / 256)).set (chkAt k + 1) (chkC src dst k B % 256)
end Go.Proofs.Ytgonckbdkgiddaa
