/- The first part of Encode of package l4: the row with head, options and data. Conditions: as said. -/
import Derived.Test.YtgonckbdkgiddaaL4f
import Derived.Test.YtgonckbdkgiddaaL4y
import Derived.Lib.BufferWrite
namespace Go.Proofs.Ytgonckbdkgiddaa
open Go.RowKit Go.Lib

/-- A row of bytes, made whole and partly filled. -/
def RowB (V : World) (g : Nat) (L : List Int) : Prop := V.heap[g]? = some (.cells (L.map (Value.int .u8)).toArray 5 (0, 0))
theorem made_row (n : Nat) : (madeCells #[.int .u8 0] n) = ((List.replicate n (0 : Int)).map (Value.int .u8)).toArray := by
  apply Array.ext
  · simp [madeCells]
  · intro i h1 h2
    simp [madeCells, Nat.mod_one]
theorem size5 : (Try.prog.info? 5).map (·.size) = some 1 := by kernel_rfl
/-- A row of bytes copied into a row. -/
theorem copy_rowB (V : World) (g N : Nat) (L : List Int) (x : Addr) (n c : Nat) (zs : List Int) (hr : RowB V g L) (hL : L.length = N) (hb : BS V (some x) n zs) (hn : n ≤ N) (hp : n = 0 ∨ ∃ b off, x = ⟨b, off, none⟩) :
    ∃ V', (Builtin.copy_ #[26, 26] 3 #[.slice (some ⟨g, 0, none⟩) N N, .slice (some x) n c]).run Try.prog V = .ok (.int .i64 (n : Int)) V' ∧ RowB V' g (zs ++ L.drop n) ∧ Below g V V' := by
  have hl := hb.len
  refine ⟨_, (run_copy_row (P := Try.prog) V 26 26 3 5 g 0 N N x n c (L.map (Value.int .u8)).toArray 5 (zs.map (Value.int .u8)) Try.underlying26 size5 hr ?_ ?_ ?_ (ints_oneCell _ _)).trans (by rw [List.length_map, hl]; rfl), ?_, ?_⟩
  · rw [List.length_map, hl]; exact (Nat.min_eq_left hn).symm
  · intro j v hv
    obtain ⟨hj, rfl⟩ := map_get hv
    rcases hb.cells with h0 | ⟨b, off, e, hc⟩
    · omega
    · cases e; rw [plain_add]; exact hc j hj
  · simp; omega
  · unfold RowB
    rw [setRow_heap _ _ _ _ 5 _ hr]
    simp
  · exact below_setRow (Below.refl _ _) (Nat.le_refl _) _
/-- A text copied into a row, behind some of it. -/
theorem copy_strB (V : World) (g N b : Nat) (L : List Int) (zs : List Int) (hf : ∀ i, 0 ≤ zs.getD i 0 ∧ zs.getD i 0 ≤ 255) (hr : RowB V g L) (hL : L.length = N) (hb : b + zs.length ≤ N) :
    ∃ V', (Builtin.copy_ #[26, 9] 3 #[.slice (some ⟨g, b, none⟩) (N - b) (N - b), .string (strOfNums zs)]).run Try.prog V = .ok (.int .i64 (zs.length : Int)) V' ∧ RowB V' g (L.take b ++ zs ++ L.drop (b + zs.length)) ∧ Below g V V' := by
  have hsz := strOfNums_size zs
  refine ⟨_, (run_copy_row_string (P := Try.prog) V 26 9 3 5 g b (N - b) (N - b) (strOfNums zs) _ 5 Try.underlying26 size5 hr (by omega) (by simp; omega)).trans (by rw [hsz]; rfl), ?_, ?_⟩
  · unfold RowB
    rw [setRow_heap _ _ _ _ 5 _ hr]
    rw [show byteCells (strOfNums zs).data.toList = zs.map (Value.int .u8) from strCells_nums hf]
    simp
  · exact below_setRow (Below.refl _ _) (Nat.le_refl _) _
theorem copy_strE (V : World) (g : Nat) (zs : List Int) (h0 : zs.length = 0) :
    (Builtin.copy_ #[26, 9] 3 #[.slice (some ⟨g, 0, none⟩) 0 0, .string (strOfNums zs)]).run Try.prog V = .ok (.int .i64 (zs.length : Int)) V := by
  have := run_copy_empty_string (P := Try.prog) V 26 9 3 5 (some ⟨g, 0, none⟩) 0 0 (strOfNums zs) Try.underlying26 (by rw [size5]; rfl) (by rw [strOfNums_size]; exact h0)
  rw [this, h0]; rfl
theorem checkAt_any (k : Int) (w : World) : Calls Try.prog 43 #[.int .i64 k] w fun e w' => e = .returned (.int .i64 (if k = 1 then 2 else if k = 2 then 6 else 16)) ∧ w' = w := by
  by_cases h1 : k = 1
  · subst h1
    go_enter Try.func43, Try.ntmps43
    go_wp2
    go_ret
    exact ⟨rfl, rfl⟩
  by_cases h2 : k = 2
  · subst h2
    go_enter Try.func43, Try.ntmps43
    go_wp2
    go_ret
    exact ⟨rfl, rfl⟩
  rw [if_neg h1, if_neg h2]
  have e1 : (k == 1) = false := by simp [h1]
  have e2 : (k == 2) = false := by simp [h2]
  clear h1 h2
  go_enter Try.func43, Try.ntmps43
  go_wp2
  go_ret
  exact ⟨rfl, rfl⟩
/-- Where a kind's check sum stands. -/
def chkAt (k : Int) : Nat := if k = 1 then 2 else if k = 2 then 6 else 16
/-- The check sum of a packet whose bytes, with none, are these. -/
def chkC (src dst k : Int) (B : List Int) : Int := if k = 2 ∧ sumV src dst k B = 65535 then 65535 else 65535 - sumV src dst k B
def setC (src dst k : Int) (B : List Int) : List Int := (B.set (chkAt k) (chkC src dst k B / 256)).set (chkAt k + 1) (chkC src dst k B % 256)
end Go.Proofs.Ytgonckbdkgiddaa
