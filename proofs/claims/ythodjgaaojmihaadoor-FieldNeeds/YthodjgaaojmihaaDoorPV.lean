/- A packet as numbers. -/
import Derived.Test.YthodjgaaojmihaaDoorL4w
import Derived.Test.YthodjgaaojmihaaDoorPKa
namespace Go.Proofs.YthodjgaaojmihaaDoor
open Go.RowKit
/-- A packet's numbers. -/
structure PkR where
  d : Int
  s : Int
  tg : Bool
  tag : Int
  et : Int
  ia : Bool
  op : Int
  sha : Int
  spa : Int
  tha : Int
  tpa : Int
  ii : Bool
  tos : Int
  id : Int
  fr : Int
  ttl : Int
  pr : Int
  src : Int
  dst : Int
  io : List Int
  l : L4R
  bd : List Int
  pd : List Int
def PkR.ps (x : PkR) : Array Value := #[.int .u64 x.d, .int .u64 x.s, .bool x.tg, .int .i64 x.tag, .int .i64 x.et, .bool x.ia, .int .i64 x.op, .int .u64 x.sha, .int .u32 x.spa, .int .u64 x.tha, .int .u32 x.tpa, .bool x.ii, .int .i64 x.tos, .int .i64 x.id, .int .i64 x.fr, .int .i64 x.ttl, .int .i64 x.pr, .int .u32 x.src, .int .u32 x.dst, .string (strOfNums x.io), .int .i64 x.l.k, .int .i64 x.l.ty, .int .i64 x.l.co, .int .u32 x.l.re, .int .i64 x.l.sp, .int .i64 x.l.dp, .bool x.l.ns, .int .u32 x.l.sq, .int .u32 x.l.ak, .int .i64 x.l.fl, .int .i64 x.l.wi, .int .i64 x.l.ur, .string (strOfNums x.l.os), .string (strOfNums x.l.ds), .string (strOfNums x.bd), .string (strOfNums x.pd)]
def zeroPkR : PkR := ⟨0, 0, false, 0, 0, false, 0, 0, 0, 0, 0, false, 0, 0, 0, 0, 0, 0, 0, [], zeroR, [], []⟩
theorem zeroPkR_ps : zeroPkR.ps = zeroPk := by kernel_rfl
end Go.Proofs.YthodjgaaojmihaaDoor
