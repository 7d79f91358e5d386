/- Packets by their numbers; two packets held against each other. No condition. -/
import Derived.Test.YtpiokeidcnbmbaaPKc
import Derived.Test.YtpiokeidcnbmbaaPCa
import Derived.Test.YtpiokeidcnbmbaaL4w
import Derived.Laws.StructEq
namespace Go.Proofs.Ytpiokeidcnbmbaa
open Go.RowKit
set_option maxRecDepth 20000
set_option maxHeartbeats 8000000 in
theorem eqEth (d : Int) (s : Int) (tg : Bool) (tag : Int) (et : Int) (d9 : Int) (s9 : Int) (tg9 : Bool) (tag9 : Int) (et9 : Int) (W : World) : (Op.equalIn 9999 25 (.agg #[.int .u64 d, .int .u64 s, .bool tg, .int .i64 tag, .int .i64 et]) (.agg #[.int .u64 d9, .int .u64 s9, .bool tg9, .int .i64 tag9, .int .i64 et9])).run Try.prog W = .ok (d == d9 && s == s9 && tg == tg9 && tag == tag9 && et == et9) W := by
  cases h0 : (d == d9)
  · simp [go_sem, h0]
  cases h1 : (s == s9)
  · simp [go_sem, h0, h1]
  cases h2 : (tg == tg9)
  · simp [go_sem, h0, h1, h2]
  cases h3 : (tag == tag9)
  · simp [go_sem, h0, h1, h2, h3]
  cases h4 : (et == et9)
  · simp [go_sem, h0, h1, h2, h3, h4]
  simp [go_sem, h0, h1, h2, h3, h4]
set_option maxHeartbeats 8000000 in
theorem eqArp (op : Int) (sha : Int) (spa : Int) (tha : Int) (tpa : Int) (op9 : Int) (sha9 : Int) (spa9 : Int) (tha9 : Int) (tpa9 : Int) (W : World) : (Op.equalIn 9999 28 (.agg #[.int .i64 op, .int .u64 sha, .int .u32 spa, .int .u64 tha, .int .u32 tpa]) (.agg #[.int .i64 op9, .int .u64 sha9, .int .u32 spa9, .int .u64 tha9, .int .u32 tpa9])).run Try.prog W = .ok (op == op9 && sha == sha9 && spa == spa9 && tha == tha9 && tpa == tpa9) W := by
  cases h0 : (op == op9)
  · simp [go_sem, h0]
  cases h1 : (sha == sha9)
  · simp [go_sem, h0, h1]
  cases h2 : (spa == spa9)
  · simp [go_sem, h0, h1, h2]
  cases h3 : (tha == tha9)
  · simp [go_sem, h0, h1, h2, h3]
  cases h4 : (tpa == tpa9)
  · simp [go_sem, h0, h1, h2, h3, h4]
  simp [go_sem, h0, h1, h2, h3, h4]
set_option maxHeartbeats 8000000 in
theorem eqIp (tos : Int) (id : Int) (fr : Int) (ttl : Int) (pr : Int) (src : Int) (dst : Int) (io : ByteArray) (tos9 : Int) (id9 : Int) (fr9 : Int) (ttl9 : Int) (pr9 : Int) (src9 : Int) (dst9 : Int) (io9 : ByteArray) (W : World) : (Op.equalIn 9999 30 (.agg #[.int .i64 tos, .int .i64 id, .int .i64 fr, .int .i64 ttl, .int .i64 pr, .int .u32 src, .int .u32 dst, .string io]) (.agg #[.int .i64 tos9, .int .i64 id9, .int .i64 fr9, .int .i64 ttl9, .int .i64 pr9, .int .u32 src9, .int .u32 dst9, .string io9])).run Try.prog W = .ok (tos == tos9 && id == id9 && fr == fr9 && ttl == ttl9 && pr == pr9 && src == src9 && dst == dst9 && io.toList == io9.toList) W := by
  cases h0 : (tos == tos9)
  · simp [go_sem, h0]
  cases h1 : (id == id9)
  · simp [go_sem, h0, h1]
  cases h2 : (fr == fr9)
  · simp [go_sem, h0, h1, h2]
  cases h3 : (ttl == ttl9)
  · simp [go_sem, h0, h1, h2, h3]
  cases h4 : (pr == pr9)
  · simp [go_sem, h0, h1, h2, h3, h4]
  cases h5 : (src == src9)
  · simp [go_sem, h0, h1, h2, h3, h4, h5]
  cases h6 : (dst == dst9)
  · simp [go_sem, h0, h1, h2, h3, h4, h5, h6]
  cases h7 : (io.toList == io9.toList)
  · simp [go_sem, h0, h1, h2, h3, h4, h5, h6, h7]
  simp [go_sem, h0, h1, h2, h3, h4, h5, h6, h7]
set_option maxHeartbeats 8000000 in
theorem eqL4 (k : Int) (ty : Int) (co : Int) (re : Int) (sp : Int) (dp : Int) (ns : Bool) (sq : Int) (ak : Int) (fl : Int) (wi : Int) (ur : Int) (lo : ByteArray) (ds : ByteArray) (k9 : Int) (ty9 : Int) (co9 : Int) (re9 : Int) (sp9 : Int) (dp9 : Int) (ns9 : Bool) (sq9 : Int) (ak9 : Int) (fl9 : Int) (wi9 : Int) (ur9 : Int) (lo9 : ByteArray) (ds9 : ByteArray) (W : World) : (Op.equalIn 9999 32 (.agg #[.int .i64 k, .int .i64 ty, .int .i64 co, .int .u32 re, .int .i64 sp, .int .i64 dp, .bool ns, .int .u32 sq, .int .u32 ak, .int .i64 fl, .int .i64 wi, .int .i64 ur, .string lo, .string ds]) (.agg #[.int .i64 k9, .int .i64 ty9, .int .i64 co9, .int .u32 re9, .int .i64 sp9, .int .i64 dp9, .bool ns9, .int .u32 sq9, .int .u32 ak9, .int .i64 fl9, .int .i64 wi9, .int .i64 ur9, .string lo9, .string ds9])).run Try.prog W = .ok (k == k9 && ty == ty9 && co == co9 && re == re9 && sp == sp9 && dp == dp9 && ns == ns9 && sq == sq9 && ak == ak9 && fl == fl9 && wi == wi9 && ur == ur9 && lo.toList == lo9.toList && ds.toList == ds9.toList) W := by
  cases h0 : (k == k9)
  · simp [go_sem, h0]
  cases h1 : (ty == ty9)
  · simp [go_sem, h0, h1]
  cases h2 : (co == co9)
  · simp [go_sem, h0, h1, h2]
  cases h3 : (re == re9)
  · simp [go_sem, h0, h1, h2, h3]
  cases h4 : (sp == sp9)
  · simp [go_sem, h0, h1, h2, h3, h4]
  cases h5 : (dp == dp9)
  · simp [go_sem, h0, h1, h2, h3, h4, h5]
  cases h6 : (ns == ns9)
  · simp [go_sem, h0, h1, h2, h3, h4, h5, h6]
  cases h7 : (sq == sq9)
  · simp [go_sem, h0, h1, h2, h3, h4, h5, h6, h7]
  cases h8 : (ak == ak9)
  · simp [go_sem, h0, h1, h2, h3, h4, h5, h6, h7, h8]
  cases h9 : (fl == fl9)
  · simp [go_sem, h0, h1, h2, h3, h4, h5, h6, h7, h8, h9]
  cases h10 : (wi == wi9)
  · simp [go_sem, h0, h1, h2, h3, h4, h5, h6, h7, h8, h9, h10]
  cases h11 : (ur == ur9)
  · simp [go_sem, h0, h1, h2, h3, h4, h5, h6, h7, h8, h9, h10, h11]
  cases h12 : (lo.toList == lo9.toList)
  · simp [go_sem, h0, h1, h2, h3, h4, h5, h6, h7, h8, h9, h10, h11, h12]
  cases h13 : (ds.toList == ds9.toList)
  · simp [go_sem, h0, h1, h2, h3, h4, h5, h6, h7, h8, h9, h10, h11, h12, h13]
  simp [go_sem, h0, h1, h2, h3, h4, h5, h6, h7, h8, h9, h10, h11, h12, h13]
set_option maxHeartbeats 8000000 in
theorem eqPacket (d : Int) (s : Int) (tg : Bool) (tag : Int) (et : Int) (ia : Bool) (op : Int) (sha : Int) (spa : Int) (tha : Int) (tpa : Int) (ii : Bool) (tos : Int) (id : Int) (fr : Int) (ttl : Int) (pr : Int) (src : Int) (dst : Int) (io : ByteArray) (k : Int) (ty : Int) (co : Int) (re : Int) (sp : Int) (dp : Int) (ns : Bool) (sq : Int) (ak : Int) (fl : Int) (wi : Int) (ur : Int) (lo : ByteArray) (ds : ByteArray) (bd : ByteArray) (pd : ByteArray) (d9 : Int) (s9 : Int) (tg9 : Bool) (tag9 : Int) (et9 : Int) (ia9 : Bool) (op9 : Int) (sha9 : Int) (spa9 : Int) (tha9 : Int) (tpa9 : Int) (ii9 : Bool) (tos9 : Int) (id9 : Int) (fr9 : Int) (ttl9 : Int) (pr9 : Int) (src9 : Int) (dst9 : Int) (io9 : ByteArray) (k9 : Int) (ty9 : Int) (co9 : Int) (re9 : Int) (sp9 : Int) (dp9 : Int) (ns9 : Bool) (sq9 : Int) (ak9 : Int) (fl9 : Int) (wi9 : Int) (ur9 : Int) (lo9 : ByteArray) (ds9 : ByteArray) (bd9 : ByteArray) (pd9 : ByteArray) (W : World) : (Op.equalIn 10000 34 (.agg #[.int .u64 d, .int .u64 s, .bool tg, .int .i64 tag, .int .i64 et, .bool ia, .int .i64 op, .int .u64 sha, .int .u32 spa, .int .u64 tha, .int .u32 tpa, .bool ii, .int .i64 tos, .int .i64 id, .int .i64 fr, .int .i64 ttl, .int .i64 pr, .int .u32 src, .int .u32 dst, .string io, .int .i64 k, .int .i64 ty, .int .i64 co, .int .u32 re, .int .i64 sp, .int .i64 dp, .bool ns, .int .u32 sq, .int .u32 ak, .int .i64 fl, .int .i64 wi, .int .i64 ur, .string lo, .string ds, .string bd, .string pd]) (.agg #[.int .u64 d9, .int .u64 s9, .bool tg9, .int .i64 tag9, .int .i64 et9, .bool ia9, .int .i64 op9, .int .u64 sha9, .int .u32 spa9, .int .u64 tha9, .int .u32 tpa9, .bool ii9, .int .i64 tos9, .int .i64 id9, .int .i64 fr9, .int .i64 ttl9, .int .i64 pr9, .int .u32 src9, .int .u32 dst9, .string io9, .int .i64 k9, .int .i64 ty9, .int .i64 co9, .int .u32 re9, .int .i64 sp9, .int .i64 dp9, .bool ns9, .int .u32 sq9, .int .u32 ak9, .int .i64 fl9, .int .i64 wi9, .int .i64 ur9, .string lo9, .string ds9, .string bd9, .string pd9])).run Try.prog W = .ok ((d == d9 && s == s9 && tg == tg9 && tag == tag9 && et == et9) && (ia == ia9) && (op == op9 && sha == sha9 && spa == spa9 && tha == tha9 && tpa == tpa9) && (ii == ii9) && (tos == tos9 && id == id9 && fr == fr9 && ttl == ttl9 && pr == pr9 && src == src9 && dst == dst9 && io.toList == io9.toList) && (k == k9 && ty == ty9 && co == co9 && re == re9 && sp == sp9 && dp == dp9 && ns == ns9 && sq == sq9 && ak == ak9 && fl == fl9 && wi == wi9 && ur == ur9 && lo.toList == lo9.toList && ds.toList == ds9.toList) && (bd.toList == bd9.toList) && (pd.toList == pd9.toList)) W := by
  rw [show (10000 : Nat) = 9999 + 1 from rfl, run_equalIn_struct W 9999 34 _ _ (by kernel_rfl) (by kernel_rfl)]
  cases h0 : (d == d9 && s == s9 && tg == tg9 && tag == tag9 && et == et9)
  · simp [go_sem, eqEth, eqArp, eqIp, eqL4, h0]
  cases h1 : (ia == ia9)
  · simp [go_sem, eqEth, eqArp, eqIp, eqL4, h0, h1]
  cases h2 : (op == op9 && sha == sha9 && spa == spa9 && tha == tha9 && tpa == tpa9)
  · simp [go_sem, eqEth, eqArp, eqIp, eqL4, h0, h1, h2]
  cases h3 : (ii == ii9)
  · simp [go_sem, eqEth, eqArp, eqIp, eqL4, h0, h1, h2, h3]
  cases h4 : (tos == tos9 && id == id9 && fr == fr9 && ttl == ttl9 && pr == pr9 && src == src9 && dst == dst9 && io.toList == io9.toList)
  · simp [go_sem, eqEth, eqArp, eqIp, eqL4, h0, h1, h2, h3, h4]
  cases h5 : (k == k9 && ty == ty9 && co == co9 && re == re9 && sp == sp9 && dp == dp9 && ns == ns9 && sq == sq9 && ak == ak9 && fl == fl9 && wi == wi9 && ur == ur9 && lo.toList == lo9.toList && ds.toList == ds9.toList)
  · simp [go_sem, eqEth, eqArp, eqIp, eqL4, h0, h1, h2, h3, h4, h5]
  cases h6 : (bd.toList == bd9.toList)
  · simp [go_sem, eqEth, eqArp, eqIp, eqL4, h0, h1, h2, h3, h4, h5, h6]
  cases h7 : (pd.toList == pd9.toList)
  · simp [go_sem, eqEth, eqArp, eqIp, eqL4, h0, h1, h2, h3, h4, h5, h6, h7]
  simp [go_sem, eqEth, eqArp, eqIp, eqL4, h0, h1, h2, h3, h4, h5, h6, h7]
end Go.Proofs.Ytpiokeidcnbmbaa
