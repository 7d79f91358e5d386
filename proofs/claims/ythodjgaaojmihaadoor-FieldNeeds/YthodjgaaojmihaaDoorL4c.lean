/- What sizeOf and numbersFit of package l4 answer. Conditions: options and data of at most 2^47 bytes. -/
import Derived.Test.YthodjgaaojmihaaDoorL4b
namespace Go.Proofs.YthodjgaaojmihaaDoor
open Go.RowKit

/-- A packet of layer 4. -/
def l4V (k ty co re sp dp : Int) (ns : Bool) (sq ak fl wi ur : Int) (os ds : List Int) : Value := .agg #[.int .i64 k, .int .i64 ty, .int .i64 co, .int .u32 re, .int .i64 sp, .int .i64 dp, .bool ns, .int .u32 sq, .int .u32 ak, .int .i64 fl, .int .i64 wi, .int .i64 ur, .string (strOfNums os), .string (strOfNums ds)]

end Go.Proofs.YthodjgaaojmihaaDoor
