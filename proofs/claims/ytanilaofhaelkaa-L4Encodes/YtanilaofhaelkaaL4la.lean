/- The function lives of the laws of l4 answers true; two equal packets. No condition. -/
import Derived.Test.YtanilaofhaelkaaL4u
namespace Go.Proofs.Ytanilaofhaelkaa
open Go.RowKit

def liveX : L4R := ⟨2, 0, 0, 0, 68, 67, false, 0, 0, 0, 0, 0, [], [120]⟩
theorem live_fine : liveX.Fine := ⟨by decide, by decide, by decide, fun i => by simp [liveX], fun i => by rcases i with _ | i <;> simp [liveX], by decide⟩
theorem live_ok : liveX.ok = true := by decide +kernel
theorem live_len : liveX.body.length = 9 := by decide +kernel

set_option maxHeartbeats 1000000 in
theorem lives_any (w : World) : Calls Try.prog 9 #[] w fun e w' => e = .returned (.bool true) ∧ Below w.heap.size w w' := by
  have hst : strOfNums [120] = ⟨#[120]⟩ := by decide +kernel
  have hsn : strOfNums [] = ⟨#[]⟩ := rfl
  have hv : liveX.v = .agg #[.int .i64 2, .int .i64 0, .int .i64 0, .int .u32 0, .int .i64 68, .int .i64 67, .bool false, .int .u32 0, .int .u32 0, .int .i64 0, .int .i64 0, .int .i64 0, .string ⟨#[]⟩, .string ⟨#[120]⟩] := by
    show l4V 2 0 0 0 68 67 false 0 0 0 0 0 [] [120] = _
    rw [l4V, hst, hsn]
  have hE0 := encode_ok liveX live_fine live_ok 167772161 167772162 (by omega) (by omega)
  rw [hv, live_len] at hE0
  have hD0 := dec_own live_fine live_ok 167772161 167772162 (by omega) (by omega)
  have hk : kindV 17 = liveX.k := rfl
  go_enter Try.func9, Try.ntmps9
  go_wp2_with fail
  refine (hE0 w).mono ?_
  clear hE0
  rintro e W1 ⟨g, rfl, hE⟩
  have hD := decode_any 167772161 167772162 17 (by omega) (by omega) (some ⟨g, 0, none⟩) 9 9 _ (by omega) (fun x e => ⟨g, 0, by cases e; rfl⟩) (fun e => by cases e) W1 hE.bs
  rw [hk, hD0.1, hD0.2, hv] at hD
  have HE : Hid (Below w.heap.size w W1) := hE.bel
  clear hE hD0
  go_wp2_with (first
    | (go_at_call 7; refine hD.mono ?_; rintro e W2 ⟨rfl, hB2⟩)
    | (go_at_call 14; refine (proto_any _ _).mono ?_; rintro e w' ⟨rfl, rfl⟩; rw [show protoV 3 = .tuple #[.int .i64 6, .bool true] from rfl])
    | fail)
  go_ret
  have hB3 := HE.out.trans (hB2.mono HE.out.size)
  exact ⟨rfl, hB3.alloc hB3.size _⟩
theorem eq14 (k ty co re sp dp : Int) (ns : Bool) (sq ak fl wi ur : Int) (os ds : ByteArray) (W : World) :
    (binOp .eql 25 (.agg #[.int .i64 k, .int .i64 ty, .int .i64 co, .int .u32 re, .int .i64 sp, .int .i64 dp, .bool ns, .int .u32 sq, .int .u32 ak, .int .i64 fl, .int .i64 wi, .int .i64 ur, .string os, .string ds]) (.agg #[.int .i64 k, .int .i64 ty, .int .i64 co, .int .u32 re, .int .i64 sp, .int .i64 dp, .bool ns, .int .u32 sq, .int .u32 ak, .int .i64 fl, .int .i64 wi, .int .i64 ur, .string os, .string ds])).run Try.prog W = .ok (.bool true) W := by
  simp [go_sem]
end Go.Proofs.Ytanilaofhaelkaa
