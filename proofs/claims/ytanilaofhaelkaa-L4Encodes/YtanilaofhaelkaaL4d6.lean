/- The document's Encode of opaque packets that may be. Conditions: as said. -/
import Derived.Test.YtanilaofhaelkaaL4d2
import Derived.Lib.ConvBytes
namespace Go.Proofs.Ytanilaofhaelkaa
open Go.RowKit
set_option linter.unusedSimpArgs false
theorem wpList_conv {P : Program} {w w' : World} {ops : Array Oper} {rest : List Oper} {o : Oper} {act : Act} {Q : Exit → Act → World → Prop} (hgd : o.guard = none) (x : Operand) (s d : TypeId) (ho : o.op = .convert s d x)
    (v r : Value) (hx : act.eval x = v) (hr : (convert s d v).run P w = .ok r w') (h : wpList P ops Q rest (act.put o.dst r) w') : wpList P ops Q (o :: rest) act w := by
  have hw : Region.wanted o (yielded ops act.tmps) = true := by simp [Region.wanted, hgd]
  refine BigFrame.wpList_want hw fun K hK => ?_
  unfold Oper.wp execOp
  simp only [ho, hx, hr, Sem.run_bind, Sem.run_pure, Result.andThen_ok]
  exact hK _ _ h
theorem bytesWorld_bel (w : World) (e : TypeId) (s : ByteArray) : Below w.heap.size w (Lib.bytesWorld w e s) :=
  ⟨by rfl, by rfl, by rfl, by rw [Lib.bytesWorld_size]; omega, fun k hk => Lib.bytesWorld_at_old w e s k hk⟩
theorem bytesWorld_bs (w : World) (e : TypeId) (ds : List Int) (hf : ∀ i, 0 ≤ ds.getD i 0 ∧ ds.getD i 0 ≤ 255) (hr : ds.length ≤ 140737488355328) : BS (Lib.bytesWorld w e (strOfNums ds)) (some ⟨w.heap.size, 0, none⟩) ds.length ds := by
  refine ⟨rfl, hf, hr, .inr ⟨w.heap.size, 0, rfl, fun i hi => ?_⟩⟩
  have h1 := Lib.bytesWorld_cell w e (strOfNums ds) i (by rw [strOfNums_size]; exact hi)
  rw [Nat.zero_add, h1]
  have h2 := strCells_nums hf
  unfold Lib.strCells at h2
  have h3 := congrArg (fun l => l[i]?) h2
  simp only [List.getElem?_map] at h3
  have h4 : (strOfNums ds).data.toList.length = ds.length := strOfNums_size ds
  rw [List.getElem?_eq_getElem (by omega), List.getElem?_eq_getElem hi] at h3
  simp only [Option.map_some, Option.some.injEq] at h3
  rw [List.getD_eq_getElem?_getD, List.getElem?_eq_getElem (by omega), List.getD_eq_getElem?_getD, List.getElem?_eq_getElem hi]
  simpa using h3
set_option maxRecDepth 20000 in
set_option maxHeartbeats 4000000 in
theorem renc_opaque (src dst : Int) (ty co re sp dp : Int) (ns : Bool) (sq ak fl wi ur : Int) (os ds : List Int) (hd : ds.length ≤ 65515) (hfd : ∀ i, 0 ≤ ds.getD i 0 ∧ ds.getD i 0 ≤ 255) (w : World)
    (HK : Hid (∀ W, Calls Try.prog 13 #[.agg #[.int .i64 0, .int .i64 ty, .int .i64 co, .int .u32 re, .int .i64 sp, .int .i64 dp, .bool ns, .int .u32 sq, .int .u32 ak, .int .i64 fl, .int .i64 wi, .int .i64 ur, .string (strOfNums os), .string (strOfNums ds)]] W fun e w' => e = .returned (.int .i64 0) ∧ Below W.heap.size W w')) :
    Calls Try.prog 11 #[.int .u32 src, .int .u32 dst, .agg #[.int .i64 0, .int .i64 ty, .int .i64 co, .int .u32 re, .int .i64 sp, .int .i64 dp, .bool ns, .int .u32 sq, .int .u32 ak, .int .i64 fl, .int .i64 wi, .int .i64 ur, .string (strOfNums os), .string (strOfNums ds)]] w fun e w' => ∃ a cap, e = .returned (.tuple #[.slice a ds.length cap, .int .i64 0]) ∧ BS w' a ds.length ds ∧ ds.length ≤ cap ∧ Below w.heap.size w w' := by
  have hs2 := strOfNums_size ds
  go_enter Try.func11, Try.ntmps11
  go_wp2_with fail
  refine (HK.out _).mono ?_
  clear HK
  rintro e W1 ⟨rfl, hb1⟩
  have A1 : Hid (AtB W1 w.heap.size #[.int .i64 0, .int .i64 ty, .int .i64 co, .int .u32 re, .int .i64 sp, .int .i64 dp, .bool ns, .int .u32 sq, .int .u32 ak, .int .i64 fl, .int .i64 wi, .int .i64 ur, .string (strOfNums os), .string (strOfNums ds)]) := AtB.below (atB_new w #[.int .i64 0, .int .i64 ty, .int .i64 co, .int .u32 re, .int .i64 sp, .int .i64 dp, .bool ns, .int .u32 sq, .int .u32 ak, .int .i64 fl, .int .i64 wi, .int .i64 ur, .string (strOfNums os), .string (strOfNums ds)] 25 _ rfl) hb1
  have B1 : Hid (Below w.heap.size w W1) := (below1 w _).trans (hb1.mono (by simp))
  clear hb1
  obtain ⟨x0, x1, x2, x3, x4, x5, x6, x7, x8, x9, x10, x11, x12, x13⟩ := AtB.cells14 A1.out
  go_wp2_with fail
  rw [Lib.run_convert_string_bytes W1 9 23 5 (strOfNums ds) Try.underlying9 Try.underlying23 Try.underlying5]
  have hb := bytesWorld_bs W1 5 ds hfd (by omega)
  have hl := bytesWorld_bel W1 5 (strOfNums ds)
  have hg := grownCap_ge W1 (strOfNums ds).size 0 5
  obtain ⟨W2, hW2⟩ : ∃ V, Lib.bytesWorld W1 5 (strOfNums ds) = V := ⟨_, rfl⟩
  obtain ⟨cp, hcp⟩ : ∃ c, grownCap W1 (strOfNums ds).size 0 5 = c := ⟨_, rfl⟩
  obtain ⟨hs, hhs⟩ : ∃ n, W1.heap.size = n := ⟨_, rfl⟩
  rw [hW2] at hb hl
  rw [hcp, hs2] at hg
  rw [hhs] at hb
  rw [hW2, hcp, hs2, hhs]
  have HB : Hid (BS W2 (some ⟨hs, 0, none⟩) ds.length ds) := hb
  have HL : Hid (Below w.heap.size w W2) := B1.out.trans (hl.mono B1.out.size)
  clear hb hl hW2 hcp hhs x0 x1 x2 x3 x4 x5 x6 x7 x8 x9 x10 x11 x12 x13 A1 B1
  go_wp2
  go_ret2
  exact ⟨some ⟨hs, 0, none⟩, cp, rfl, HB.out, hg, HL.out⟩
end Go.Proofs.Ytanilaofhaelkaa
