/- What Decode of package dhcp answers on bytes that are no message. No condition on the bytes. -/
import Derived.Test.YtglaheblbomhpaaFD
namespace Go.Proofs.Ytglaheblbomhpaa
open Go.RowKit

set_option maxHeartbeats 1000000 in
theorem decode_no1 (w : World) (a : Option Addr) (n cap : Nat) (zs : List Int) (h : BS w a n zs) (hcap : n ≤ cap) (hm : isMsgB zs = false) :
    Calls Try.prog 7 #[.slice a n cap] w fun e w' => e = .returned (.tuple #[.agg zeroArr, .int .i64 60]) ∧ Below w.heap.size w w' := by
  have B1 := below1 w (.cells zeroArr 27)
  have H1 : Hid _ := h.below B1
  have HM : Hid _ := hm
  have HB1 : Hid _ := B1
  clear h hm B1
  unfold zeroArr at *
  go_enter Try.func7, Try.ntmps7
  go_wp2_with fail
  refine (isMsg_any cap H1.out hcap).mono ?_
  rintro e w' ⟨rfl, rfl⟩
  rw [HM.out]
  go_wp2
  refine bodyPost_ret (v := .tuple #[.agg #[.int .i64 0, .int .u32 0, .int .i64 0, .int .i64 0, .int .u32 0, .int .u32 0, .int .u32 0, .int .u32 0, .int .u64 0, .slice none 0 0], .int .i64 60]) ?_ rfl ⟨rfl, ?_⟩
  · simp [results, Try.results7, go_sem, *]
  · show Below _ _ _
    first | exact HB1.out | (repeat (first | exact HB1.out | refine Below.setCell ?_ (by simp) _ | refine Below.alloc ?_ (by simp) _))

end Go.Proofs.Ytglaheblbomhpaa
