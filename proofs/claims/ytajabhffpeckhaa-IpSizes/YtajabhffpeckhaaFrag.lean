/- First and Whole of package ip and of the reference, carried over a world that has only grown. No condition. -/
import Derived.Test.YtajabhffpeckhaaArgs
import Derived.Deep.RegionHeld3
import Derived.Deep.RegionWith
import Derived.Deep.DrawnRows
namespace Go.Proofs.Ytajabhffpeckhaa
open Go.ChangeShapes Go.WideShapes Go.ChangeAt Go.RowKit
attribute [local go_sem ↓] Go.wp_at_zero Go.wp_at_succ

theorem ip_First_from {w W : World} (h : Below w.heap.size w W) (tos id frag ttl pr src dst : Int) (os : List Int) : Calls Try.prog 14 #[.agg #[.int .i64 tos, .int .i64 id, .int .i64 frag, .int .i64 ttl, .int .i64 pr, .int .u32 src, .int .u32 dst, .string (strOfNums os)]] W fun e w' => e = .returned (.bool (bits .and .i64 frag 8191 == 0)) ∧ Below w.heap.size w w' :=
  (ip_First_any tos id frag ttl pr src dst os W).mono fun _ _ ⟨he, hb⟩ => ⟨he, h.trans (hb.mono h.size)⟩
theorem r3_First_from {w W : World} (h : Below w.heap.size w W) (tos id frag ttl pr src dst : Int) (os : List Int) : Calls Try.prog 15 #[.agg #[.int .i64 tos, .int .i64 id, .int .i64 frag, .int .i64 ttl, .int .i64 pr, .int .u32 src, .int .u32 dst, .string (strOfNums os)]] W fun e w' => e = .returned (.bool (bits .and .i64 frag 8191 == 0)) ∧ Below w.heap.size w w' :=
  (r3_First_any tos id frag ttl pr src dst os W).mono fun _ _ ⟨he, hb⟩ => ⟨he, h.trans (hb.mono h.size)⟩
theorem r3_Whole_from {w W : World} (h : Below w.heap.size w W) (tos id frag ttl pr src dst : Int) (os : List Int) : Calls Try.prog 17 #[.agg #[.int .i64 tos, .int .i64 id, .int .i64 frag, .int .i64 ttl, .int .i64 pr, .int .u32 src, .int .u32 dst, .string (strOfNums os)]] W fun e w' => e = .returned (.bool (bits .and .i64 frag 16383 == 0)) ∧ Below w.heap.size w w' :=
  (r3_Whole_any tos id frag ttl pr src dst os W).mono fun _ _ ⟨he, hb⟩ => ⟨he, h.trans (hb.mono h.size)⟩
theorem ip_Whole_from {w W : World} (h : Below w.heap.size w W) (tos id frag ttl pr src dst : Int) (os : List Int) : Calls Try.prog 16 #[.agg #[.int .i64 tos, .int .i64 id, .int .i64 frag, .int .i64 ttl, .int .i64 pr, .int .u32 src, .int .u32 dst, .string (strOfNums os)]] W fun e w' => e = .returned (.bool ((bits .and .i64 frag 8191 == 0) && (bits .and .i64 frag 8192 == 0))) ∧ Below w.heap.size w w' :=
  (ip_Whole_any tos id frag ttl pr src dst os W).mono fun _ _ ⟨he, hb⟩ => ⟨he, h.trans (hb.mono h.size)⟩

end Go.Proofs.Ytajabhffpeckhaa
