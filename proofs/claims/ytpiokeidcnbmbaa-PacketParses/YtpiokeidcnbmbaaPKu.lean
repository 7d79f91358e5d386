/- Parts of the proof, in one text. -/
import Derived.Test.YtpiokeidcnbmbaaPKs
import Derived.Test.YtpiokeidcnbmbaaPKt
import Derived.Test.YtpiokeidcnbmbaaPKi
import Derived.Test.YtpiokeidcnbmbaaPKg
import Derived.Test.YtpiokeidcnbmbaaXM
import Derived.Test.YtpiokeidcnbmbaaL4n
import Derived.Test.YtpiokeidcnbmbaaIA
namespace Go.Proofs.Ytpiokeidcnbmbaa
open Go.RowKit
set_option maxRecDepth 20000
/-- A packet's numbers. -/
structure PkR where
  d : Int
  s : Int
  tg : Bool
  tag : Int
  et : Int
  ia : Bool
  op : Int
  sha : Int
  spa : Int
  tha : Int
  tpa : Int
  ii : Bool
  tos : Int
  id : Int
  fr : Int
  ttl : Int
  pr : Int
  src : Int
  dst : Int
  io : List Int
  l : L4R
  bd : List Int
  pd : List Int
def PkR.ps (x : PkR) : Array Value := #[.int .u64 x.d, .int .u64 x.s, .bool x.tg, .int .i64 x.tag, .int .i64 x.et, .bool x.ia, .int .i64 x.op, .int .u64 x.sha, .int .u32 x.spa, .int .u64 x.tha, .int .u32 x.tpa, .bool x.ii, .int .i64 x.tos, .int .i64 x.id, .int .i64 x.fr, .int .i64 x.ttl, .int .i64 x.pr, .int .u32 x.src, .int .u32 x.dst, .string (strOfNums x.io), .int .i64 x.l.k, .int .i64 x.l.ty, .int .i64 x.l.co, .int .u32 x.l.re, .int .i64 x.l.sp, .int .i64 x.l.dp, .bool x.l.ns, .int .u32 x.l.sq, .int .u32 x.l.ak, .int .i64 x.l.fl, .int .i64 x.l.wi, .int .i64 x.l.ur, .string (strOfNums x.l.os), .string (strOfNums x.l.ds), .string (strOfNums x.bd), .string (strOfNums x.pd)]
structure PkR.Fine (x : PkR) : Prop where
  d : 0 ≤ x.d ∧ x.d ≤ 18446744073709551615
  s : 0 ≤ x.s ∧ x.s ≤ 18446744073709551615
  sha : 0 ≤ x.sha ∧ x.sha ≤ 18446744073709551615
  tha : 0 ≤ x.tha ∧ x.tha ≤ 18446744073709551615
  spa : 0 ≤ x.spa ∧ x.spa ≤ 4294967295
  tpa : 0 ≤ x.tpa ∧ x.tpa ≤ 4294967295
  src : 0 ≤ x.src ∧ x.src ≤ 4294967295
  dst : 0 ≤ x.dst ∧ x.dst ≤ 4294967295
  io : ∀ i, 0 ≤ x.io.getD i 0 ∧ x.io.getD i 0 ≤ 255
  bd : ∀ i, 0 ≤ x.bd.getD i 0 ∧ x.bd.getD i 0 ≤ 255
  pd : ∀ i, 0 ≤ x.pd.getD i 0 ∧ x.pd.getD i 0 ≤ 255
  iol : x.io.length ≤ 140737488355328
  bdl : x.bd.length ≤ 140737488355328
  pdl : x.pd.length ≤ 140737488355328
  l : x.l.Fine
def PkR.eqB (x y : PkR) : Bool := (x.d == y.d && x.s == y.s && x.tg == y.tg && x.tag == y.tag && x.et == y.et) && (x.ia == y.ia) && (x.op == y.op && x.sha == y.sha && x.spa == y.spa && x.tha == y.tha && x.tpa == y.tpa) && (x.ii == y.ii) && (x.tos == y.tos && x.id == y.id && x.fr == y.fr && x.ttl == y.ttl && x.pr == y.pr && x.src == y.src && x.dst == y.dst && (strOfNums x.io).toList == (strOfNums y.io).toList) && (x.l.k == y.l.k && x.l.ty == y.l.ty && x.l.co == y.l.co && x.l.re == y.l.re && x.l.sp == y.l.sp && x.l.dp == y.l.dp && x.l.ns == y.l.ns && x.l.sq == y.l.sq && x.l.ak == y.l.ak && x.l.fl == y.l.fl && x.l.wi == y.l.wi && x.l.ur == y.l.ur && (strOfNums x.l.os).toList == (strOfNums y.l.os).toList && (strOfNums x.l.ds).toList == (strOfNums y.l.ds).toList) && ((strOfNums x.bd).toList == (strOfNums y.bd).toList) && ((strOfNums x.pd).toList == (strOfNums y.pd).toList)
theorem PkR.eqRun (x y : PkR) (W : World) : (binOp .eql 34 (.agg x.ps) (.agg y.ps)).run Try.prog W = .ok (.bool (x.eqB y)) W := by
  rw [run_eql_struct]
  rw [show (Op.equalIn 10000 34 (.agg x.ps) (.agg y.ps)).run Try.prog W = .ok (x.eqB y) W from eqPacket x.d x.s x.tg x.tag x.et x.ia x.op x.sha x.spa x.tha x.tpa x.ii x.tos x.id x.fr x.ttl x.pr x.src x.dst (strOfNums x.io) x.l.k x.l.ty x.l.co x.l.re x.l.sp x.l.dp x.l.ns x.l.sq x.l.ak x.l.fl x.l.wi x.l.ur (strOfNums x.l.os) (strOfNums x.l.ds) (strOfNums x.bd) (strOfNums x.pd) y.d y.s y.tg y.tag y.et y.ia y.op y.sha y.spa y.tha y.tpa y.ii y.tos y.id y.fr y.ttl y.pr y.src y.dst (strOfNums y.io) y.l.k y.l.ty y.l.co y.l.re y.l.sp y.l.dp y.l.ns y.l.sq y.l.ak y.l.fl y.l.wi y.l.ur (strOfNums y.l.os) (strOfNums y.l.ds) (strOfNums y.bd) (strOfNums y.pd) W]
  rfl
theorem PkR.neqRun (x y : PkR) (W : World) : (binOp .neq 34 (.agg x.ps) (.agg y.ps)).run Try.prog W = .ok (.bool (!(x.eqB y))) W := by
  rw [run_neq_struct]
  rw [show (Op.equalIn 10000 34 (.agg x.ps) (.agg y.ps)).run Try.prog W = .ok (x.eqB y) W from eqPacket x.d x.s x.tg x.tag x.et x.ia x.op x.sha x.spa x.tha x.tpa x.ii x.tos x.id x.fr x.ttl x.pr x.src x.dst (strOfNums x.io) x.l.k x.l.ty x.l.co x.l.re x.l.sp x.l.dp x.l.ns x.l.sq x.l.ak x.l.fl x.l.wi x.l.ur (strOfNums x.l.os) (strOfNums x.l.ds) (strOfNums x.bd) (strOfNums x.pd) y.d y.s y.tg y.tag y.et y.ia y.op y.sha y.spa y.tha y.tpa y.ii y.tos y.id y.fr y.ttl y.pr y.src y.dst (strOfNums y.io) y.l.k y.l.ty y.l.co y.l.re y.l.sp y.l.dp y.l.ns y.l.sq y.l.ak y.l.fl y.l.wi y.l.ur (strOfNums y.l.os) (strOfNums y.l.ds) (strOfNums y.bd) (strOfNums y.pd) W]
  rfl
theorem PkR.eqB_self (x : PkR) : x.eqB x = true := by simp [PkR.eqB]
def zeroPkR : PkR := ⟨0, 0, false, 0, 0, false, 0, 0, 0, 0, 0, false, 0, 0, 0, 0, 0, 0, 0, [], zeroR, [], []⟩
theorem zeroPkR_ps : zeroPkR.ps = zeroPk := by kernel_rfl
theorem zeroR_fine : zeroR.Fine := ⟨by decide, by decide, by decide, fun i => by simp [zeroR], fun i => by simp [zeroR], by decide⟩
theorem zeroPkR_fine : zeroPkR.Fine := ⟨by decide, by decide, by decide, by decide, by decide, by decide, by decide, by decide, fun i => by simp [zeroPkR], fun i => by simp [zeroPkR], fun i => by simp [zeroPkR], by decide, by decide, by decide, zeroR_fine⟩
def PkR.ownP (x : PkR) : PkR := { zeroPkR with d := x.d, s := x.s, tg := x.tg, tag := x.tag, et := x.et, bd := x.bd }
def PkR.ownA (x : PkR) : PkR := { zeroPkR with d := x.d, s := x.s, tg := x.tg, tag := x.tag, et := x.et, ia := true, op := x.op, sha := x.sha, spa := x.spa, tha := x.tha, tpa := x.tpa, pd := x.pd }
def PkR.ownI (x : PkR) : PkR := { zeroPkR with d := x.d, s := x.s, tg := x.tg, tag := x.tag, et := x.et, ii := true, tos := x.tos, id := x.id, fr := x.fr, ttl := x.ttl, pr := x.pr, src := x.src, dst := x.dst, io := x.io, l := { x.l with k := if wholeB x.fr = true then kindV x.pr else 0 }, pd := x.pd }
def PkR.own (x : PkR) : PkR := if x.et = 2054 then x.ownA else if x.et = 2048 then x.ownI else x.ownP
theorem PkR.size (x : PkR) : x.ps.size = 36 := rfl
set_option maxHeartbeats 4000000 in
/-- isOfForm of every packet. -/
theorem PkR.form (x : PkR) (w : World) : Calls Try.prog 28 #[.agg x.ps] w fun e w' => e = .returned (.bool (x.eqB x.own)) ∧ Below w.heap.size w w' := by
  by_cases h1 : x.et = 2054
  · have ho : x.own = x.ownA := by unfold PkR.own; rw [if_pos h1]
    rw [ho]
    obtain ⟨d, s, tg, tag, et, ia, op, sha, spa, tha, tpa, ii, tos, id, fr, ttl, pr, src, dst, io, l, bd, pd⟩ := x
    simp only at h1
    subst h1
    have e : (Ca.putC ((Ca.putC zeroPk 0 (#[.int .u64 d, .int .u64 s, .bool tg, .int .i64 tag, .int .i64 2054]).toList).setIfInBounds 5 (.bool true)) 6 (#[.int .i64 op, .int .u64 sha, .int .u32 spa, .int .u64 tha, .int .u32 tpa]).toList).setIfInBounds 35 (.string (strOfNums pd)) = ((⟨d, s, tg, tag, 2054, ia, op, sha, spa, tha, tpa, ii, tos, id, fr, ttl, pr, src, dst, io, l, bd, pd⟩ : PkR).ownA).ps := by kernel_rfl
    have hq : ∀ W, (binOp .eql 34 (.agg (⟨d, s, tg, tag, 2054, ia, op, sha, spa, tha, tpa, ii, tos, id, fr, ttl, pr, src, dst, io, l, bd, pd⟩ : PkR).ps) (.agg ((Ca.putC ((Ca.putC zeroPk 0 (#[.int .u64 d, .int .u64 s, .bool tg, .int .i64 tag, .int .i64 2054]).toList).setIfInBounds 5 (.bool true)) 6 (#[.int .i64 op, .int .u64 sha, .int .u32 spa, .int .u64 tha, .int .u32 tpa]).toList).setIfInBounds 35 (.string (strOfNums pd))))).run Try.prog W = .ok (.bool ((⟨d, s, tg, tag, 2054, ia, op, sha, spa, tha, tpa, ii, tos, id, fr, ttl, pr, src, dst, io, l, bd, pd⟩ : PkR).eqB ((⟨d, s, tg, tag, 2054, ia, op, sha, spa, tha, tpa, ii, tos, id, fr, ttl, pr, src, dst, io, l, bd, pd⟩ : PkR).ownA))) W := fun W => (congrArg (fun a => (binOp .eql 34 (.agg (⟨d, s, tg, tag, 2054, ia, op, sha, spa, tha, tpa, ii, tos, id, fr, ttl, pr, src, dst, io, l, bd, pd⟩ : PkR).ps) (.agg a)).run Try.prog W) e).trans (PkR.eqRun (⟨d, s, tg, tag, 2054, ia, op, sha, spa, tha, tpa, ii, tos, id, fr, ttl, pr, src, dst, io, l, bd, pd⟩ : PkR) ((⟨d, s, tg, tag, 2054, ia, op, sha, spa, tha, tpa, ii, tos, id, fr, ttl, pr, src, dst, io, l, bd, pd⟩ : PkR).ownA) W)
    clear e
    refine form_arp _ (PkR.size _) d s tag tg op sha spa tha tpa (strOfNums pd) (by kernel_rfl) (by kernel_rfl) (by kernel_rfl) (by kernel_rfl) _ w (fun W => ?_)
    exact hq W
  by_cases h2 : x.et = 2048
  · have ho : x.own = x.ownI := by unfold PkR.own; rw [if_neg h1, if_pos h2]
    rw [ho]
    obtain ⟨d, s, tg, tag, et, ia, op, sha, spa, tha, tpa, ii, tos, id, fr, ttl, pr, src, dst, io, l, bd, pd⟩ := x
    obtain ⟨k, ty, co, re, sp, dp, ns, sq, ak, fl, wi, ur, lo, ds⟩ := l
    simp only at h2
    subst h2
    have e : ((Ca.putC (Ca.putC ((Ca.putC zeroPk 0 (#[.int .u64 d, .int .u64 s, .bool tg, .int .i64 tag, .int .i64 2048]).toList).setIfInBounds 11 (.bool true)) 12 (#[.int .i64 tos, .int .i64 id, .int .i64 fr, .int .i64 ttl, .int .i64 pr, .int .u32 src, .int .u32 dst, .string (strOfNums io)]).toList) 20 (#[.int .i64 k, .int .i64 ty, .int .i64 co, .int .u32 re, .int .i64 sp, .int .i64 dp, .bool ns, .int .u32 sq, .int .u32 ak, .int .i64 fl, .int .i64 wi, .int .i64 ur, .string (strOfNums lo), .string (strOfNums ds)]).toList).setIfInBounds 35 (.string (strOfNums pd))).setIfInBounds 20 (.int .i64 (if wholeB fr = true then kindV pr else 0)) = ((⟨d, s, tg, tag, 2048, ia, op, sha, spa, tha, tpa, ii, tos, id, fr, ttl, pr, src, dst, io, ⟨k, ty, co, re, sp, dp, ns, sq, ak, fl, wi, ur, lo, ds⟩, bd, pd⟩ : PkR).ownI).ps := by kernel_rfl
    have hq : ∀ W, (binOp .eql 34 (.agg (⟨d, s, tg, tag, 2048, ia, op, sha, spa, tha, tpa, ii, tos, id, fr, ttl, pr, src, dst, io, ⟨k, ty, co, re, sp, dp, ns, sq, ak, fl, wi, ur, lo, ds⟩, bd, pd⟩ : PkR).ps) (.agg (((Ca.putC (Ca.putC ((Ca.putC zeroPk 0 (#[.int .u64 d, .int .u64 s, .bool tg, .int .i64 tag, .int .i64 2048]).toList).setIfInBounds 11 (.bool true)) 12 (#[.int .i64 tos, .int .i64 id, .int .i64 fr, .int .i64 ttl, .int .i64 pr, .int .u32 src, .int .u32 dst, .string (strOfNums io)]).toList) 20 (#[.int .i64 k, .int .i64 ty, .int .i64 co, .int .u32 re, .int .i64 sp, .int .i64 dp, .bool ns, .int .u32 sq, .int .u32 ak, .int .i64 fl, .int .i64 wi, .int .i64 ur, .string (strOfNums lo), .string (strOfNums ds)]).toList).setIfInBounds 35 (.string (strOfNums pd))).setIfInBounds 20 (.int .i64 (if wholeB fr = true then kindV pr else 0))))).run Try.prog W = .ok (.bool ((⟨d, s, tg, tag, 2048, ia, op, sha, spa, tha, tpa, ii, tos, id, fr, ttl, pr, src, dst, io, ⟨k, ty, co, re, sp, dp, ns, sq, ak, fl, wi, ur, lo, ds⟩, bd, pd⟩ : PkR).eqB ((⟨d, s, tg, tag, 2048, ia, op, sha, spa, tha, tpa, ii, tos, id, fr, ttl, pr, src, dst, io, ⟨k, ty, co, re, sp, dp, ns, sq, ak, fl, wi, ur, lo, ds⟩, bd, pd⟩ : PkR).ownI))) W := fun W => (congrArg (fun a => (binOp .eql 34 (.agg (⟨d, s, tg, tag, 2048, ia, op, sha, spa, tha, tpa, ii, tos, id, fr, ttl, pr, src, dst, io, ⟨k, ty, co, re, sp, dp, ns, sq, ak, fl, wi, ur, lo, ds⟩, bd, pd⟩ : PkR).ps) (.agg a)).run Try.prog W) e).trans (PkR.eqRun (⟨d, s, tg, tag, 2048, ia, op, sha, spa, tha, tpa, ii, tos, id, fr, ttl, pr, src, dst, io, ⟨k, ty, co, re, sp, dp, ns, sq, ak, fl, wi, ur, lo, ds⟩, bd, pd⟩ : PkR) ((⟨d, s, tg, tag, 2048, ia, op, sha, spa, tha, tpa, ii, tos, id, fr, ttl, pr, src, dst, io, ⟨k, ty, co, re, sp, dp, ns, sq, ak, fl, wi, ur, lo, ds⟩, bd, pd⟩ : PkR).ownI) W)
    clear e
    refine form_ip _ (PkR.size _) d s tag tg tos id fr ttl pr src dst io k ty co re sp dp ns sq ak fl wi ur lo ds (strOfNums pd) (by kernel_rfl) (by kernel_rfl) (by kernel_rfl) (by kernel_rfl) (by kernel_rfl) (if wholeB fr = true then kindV pr else 0) _ w (fun W => ?_) (fun W => kindOf_any tos id fr ttl pr src dst io W)
    exact hq W
  · have ho : x.own = x.ownP := by unfold PkR.own; rw [if_neg h1, if_neg h2]
    rw [ho]
    obtain ⟨d, s, tg, tag, et, ia, op, sha, spa, tha, tpa, ii, tos, id, fr, ttl, pr, src, dst, io, l, bd, pd⟩ := x
    simp only at h1 h2
    have e : (Ca.putC zeroPk 0 (#[.int .u64 d, .int .u64 s, .bool tg, .int .i64 tag, .int .i64 et]).toList).setIfInBounds 34 (.string (strOfNums bd)) = ((⟨d, s, tg, tag, et, ia, op, sha, spa, tha, tpa, ii, tos, id, fr, ttl, pr, src, dst, io, l, bd, pd⟩ : PkR).ownP).ps := by kernel_rfl
    have hq : ∀ W, (binOp .eql 34 (.agg (⟨d, s, tg, tag, et, ia, op, sha, spa, tha, tpa, ii, tos, id, fr, ttl, pr, src, dst, io, l, bd, pd⟩ : PkR).ps) (.agg ((Ca.putC zeroPk 0 (#[.int .u64 d, .int .u64 s, .bool tg, .int .i64 tag, .int .i64 et]).toList).setIfInBounds 34 (.string (strOfNums bd))))).run Try.prog W = .ok (.bool ((⟨d, s, tg, tag, et, ia, op, sha, spa, tha, tpa, ii, tos, id, fr, ttl, pr, src, dst, io, l, bd, pd⟩ : PkR).eqB ((⟨d, s, tg, tag, et, ia, op, sha, spa, tha, tpa, ii, tos, id, fr, ttl, pr, src, dst, io, l, bd, pd⟩ : PkR).ownP))) W := fun W => (congrArg (fun a => (binOp .eql 34 (.agg (⟨d, s, tg, tag, et, ia, op, sha, spa, tha, tpa, ii, tos, id, fr, ttl, pr, src, dst, io, l, bd, pd⟩ : PkR).ps) (.agg a)).run Try.prog W) e).trans (PkR.eqRun (⟨d, s, tg, tag, et, ia, op, sha, spa, tha, tpa, ii, tos, id, fr, ttl, pr, src, dst, io, l, bd, pd⟩ : PkR) ((⟨d, s, tg, tag, et, ia, op, sha, spa, tha, tpa, ii, tos, id, fr, ttl, pr, src, dst, io, l, bd, pd⟩ : PkR).ownP) W)
    clear e
    refine form_plain _ (PkR.size _) d s tag et tg (strOfNums bd) (by kernel_rfl) (by kernel_rfl) (by kernel_rfl) (by simpa using h1) (by simpa using h2) _ w (fun W => ?_)
    exact hq W
end Go.Proofs.Ytpiokeidcnbmbaa

namespace Go.Proofs.Ytpiokeidcnbmbaa
open Go.RowKit
set_option maxRecDepth 20000
set_option maxHeartbeats 2000000 in
theorem inner_arp (ps : Array Value) (h5 : ps[5]? = some (.bool true)) (op sha spa tha tpa : Int) (hA : ps.extract 6 (6 + 5) = #[.int .i64 op, .int .u64 sha, .int .u32 spa, .int .u64 tha, .int .u32 tpa]) (n : Nat) (B : List Int) (w : World)
    (HP : Hid (∀ W, Calls Try.prog 61 #[.agg #[.int .i64 op, .int .u64 sha, .int .u32 spa, .int .u64 tha, .int .u32 tpa]] W fun e w' => ∃ a cap, e = .returned (.tuple #[.slice a n cap, .int .i64 0]) ∧ RB W w' (.slice a n cap) n B)) :
    Calls Try.prog 30 #[.agg ps] w fun e w' => ∃ a cap, e = .returned (.tuple #[.slice a n cap, .int .i64 0]) ∧ RB w w' (.slice a n cap) n B := by
  have R1 : Hid ((w.alloc (.cells ps 34)).heap[w.heap.size]? = some (.cells ps 34 (0, 0))) := heap_alloc_new w _
  have c5 := (Ca.cell_row R1.out 5).trans h5
  have hA9 : (ps.extract 6 (6 + 5)).size = 5 := by rw [hA]; rfl
  clear h5
  go_enter Try.func30, Try.ntmps30
  go_wp2_with (first
    | (refine Ca.wpList_load_at rfl 28 _ rfl w.heap.size 6 5 rfl ps 34 _ R1.out Try.underlying28 rfl hA9 (by kernel_rfl) ?_; rw [hA])
    | fail)
  refine (HP.out _).mono ?_
  rintro e W1 ⟨a, cap, rfl, r1⟩
  have R3 : Hid (RB w W1 (.slice a n cap) n B) := ⟨own_base r1.own (by simp), (below1 w _).trans (r1.bel.mono (by simp))⟩
  clear r1 HP R1 c5
  go_wp2
  go_ret2
  exact ⟨a, cap, rfl, R3.out⟩
end Go.Proofs.Ytpiokeidcnbmbaa

namespace Go.Proofs.Ytpiokeidcnbmbaa
open Go.RowKit
set_option maxRecDepth 20000
theorem L4R.enc_fits {x : L4R} (hf : x.Fine) (src dst : Int) (hs : 0 ≤ src) (ht : 0 ≤ dst) : ∀ i, 0 ≤ (x.enc src dst).getD i 0 ∧ (x.enc src dst).getD i 0 ≤ 255 := by
  have hB := L4R.body_fits hf
  unfold L4R.enc
  split
  · exact hB
  · have := chkC_bd src dst x.k x.body hs ht hB
    unfold setC
    exact fits_set (fits_set hB _ _ (by omega)) _ _ (by omega)
def PkR.head (x : PkR) : List Int := Eth.headBytes x.d x.s x.tg x.tag x.et
def PkR.ipb (x : PkR) : List Int := Ip.ipB x.tos x.id x.fr x.ttl x.pr x.src x.dst x.io x.l.body.length
def PkR.inner (x : PkR) : List Int := if x.et = 2054 then Eth.arpBytes x.op x.sha x.spa x.tha x.tpa else if x.et = 2048 then x.ipb ++ x.l.enc x.src x.dst else []
def PkR.bytes (x : PkR) : List Int := x.head ++ x.inner ++ x.bd ++ x.pd
/-- May it be, but for its length? -/
structure PkR.Fits (x : PkR) : Prop where
  own : x = x.own
  head : Eth.fitsB x.d x.s x.tg x.tag x.et = true
  arp : x.et = 2054 → Eth.arpFits x.op x.sha x.tha = true
  l4 : x.et = 2048 → x.l.ok = true
  ip : x.et = 2048 → Ip.encOk x.tos x.id x.fr x.ttl x.pr x.io.length x.l.body.length = true
theorem arpBytes_len (op sha spa tha tpa : Int) : (Eth.arpBytes op sha spa tha tpa).length = 28 := by simp [Eth.arpBytes, be_len]
theorem arpBytes_bd (op sha spa tha tpa : Int) : ∀ i, 0 ≤ (Eth.arpBytes op sha spa tha tpa).getD i 0 ∧ (Eth.arpBytes op sha spa tha tpa).getD i 0 ≤ 255 := by
  unfold Eth.arpBytes
  refine fits_append (fits_append (fits_append (fits_append (fits_append ?_ (be_bd _ _)) (be_bd _ _)) (be_bd _ _)) (be_bd _ _)) (be_bd _ _)
  intro i
  rcases i with _ | _ | _ | _ | _ | _ | i <;> simp
theorem headBytes_bd (d s : Int) (tg : Bool) (tag ty : Int) : ∀ i, 0 ≤ (Eth.headBytes d s tg tag ty).getD i 0 ∧ (Eth.headBytes d s tg tag ty).getD i 0 ≤ 255 := by
  unfold Eth.headBytes
  refine fits_append (fits_append (fits_append (be_bd _ _) (be_bd _ _)) ?_) (be_bd _ _)
  split
  · exact fits_append (be_bd _ _) (be_bd _ _)
  · intro i; simp
theorem headBytes_len (d s : Int) (tg : Bool) (tag ty : Int) : (Eth.headBytes d s tg tag ty).length = if tg = true then 18 else 14 := by
  cases tg <;> simp [Eth.headBytes, be_len]
theorem PkR.flagsA {x : PkR} (h : x = x.own) (e : x.et = 2054) : x.ia = true ∧ x.ii = false := by
  have h1 : x.own = x.ownA := by unfold PkR.own; rw [if_pos e]
  rw [h1] at h
  rw [h]; exact ⟨rfl, rfl⟩
theorem PkR.flagsI {x : PkR} (h : x = x.own) (e : x.et = 2048) : x.ia = false ∧ x.ii = true ∧ x.bd = [] ∧ x.l.k = if wholeB x.fr = true then kindV x.pr else 0 := by
  have h1 : x.own = x.ownI := by unfold PkR.own; rw [if_neg (by omega), if_pos e]
  have h2 := h
  rw [h1] at h2
  refine ⟨by rw [h2]; rfl, by rw [h2]; rfl, by rw [h2]; rfl, ?_⟩
  have h3 : x.l = x.ownI.l := congrArg PkR.l h2
  rw [h3]; rfl
theorem PkR.flagsP {x : PkR} (h : x = x.own) (e1 : x.et ≠ 2054) (e2 : x.et ≠ 2048) : x.ia = false ∧ x.ii = false ∧ x.pd = [] := by
  have h1 : x.own = x.ownP := by unfold PkR.own; rw [if_neg e1, if_neg e2]
  rw [h1] at h
  rw [h]; exact ⟨rfl, rfl, rfl⟩
theorem PkR.get5 (x : PkR) : x.ps[5]? = some (.bool x.ia) := rfl
theorem PkR.get11 (x : PkR) : x.ps[11]? = some (.bool x.ii) := rfl
theorem PkR.get34 (x : PkR) : x.ps[34]? = some (.string (strOfNums x.bd)) := rfl
theorem PkR.get35 (x : PkR) : x.ps[35]? = some (.string (strOfNums x.pd)) := rfl
theorem PkR.exE (x : PkR) : x.ps.extract 0 (0 + 5) = #[.int .u64 x.d, .int .u64 x.s, .bool x.tg, .int .i64 x.tag, .int .i64 x.et] := by kernel_rfl
theorem PkR.exA (x : PkR) : x.ps.extract 6 (6 + 5) = #[.int .i64 x.op, .int .u64 x.sha, .int .u32 x.spa, .int .u64 x.tha, .int .u32 x.tpa] := by kernel_rfl
theorem PkR.exI (x : PkR) : x.ps.extract 12 (12 + 8) = #[.int .i64 x.tos, .int .i64 x.id, .int .i64 x.fr, .int .i64 x.ttl, .int .i64 x.pr, .int .u32 x.src, .int .u32 x.dst, .string (strOfNums x.io)] := by kernel_rfl
theorem PkR.exL (x : PkR) : x.ps.extract 20 (20 + 14) = #[.int .i64 x.l.k, .int .i64 x.l.ty, .int .i64 x.l.co, .int .u32 x.l.re, .int .i64 x.l.sp, .int .i64 x.l.dp, .bool x.l.ns, .int .u32 x.l.sq, .int .u32 x.l.ak, .int .i64 x.l.fl, .int .i64 x.l.wi, .int .i64 x.l.ur, .string (strOfNums x.l.os), .string (strOfNums x.l.ds)] := by kernel_rfl
theorem PkR.inner_bd {x : PkR} (hx : x.Fine) (h : x.Fits) : ∀ i, 0 ≤ x.inner.getD i 0 ∧ x.inner.getD i 0 ≤ 255 := by
  unfold PkR.inner
  split
  · exact arpBytes_bd _ _ _ _ _
  · split
    · exact fits_append (Ip.ipB_bd (Ip.encOk_yes (h.ip (by assumption))) hx.src hx.dst hx.io) (L4R.enc_fits hx.l _ _ hx.src.1 hx.dst.1)
    · intro i; simp
theorem PkR.ipb_len (x : PkR) : x.ipb.length = 20 + x.io.length := Ip.ipB_len ..
theorem PkR.inner_len {x : PkR} (h : x.Fits) : x.inner.length ≤ 65535 := by
  unfold PkR.inner
  split
  · rw [arpBytes_len]; omega
  · split
    · have h1 := (Ip.encOk_yes (h.ip (by assumption)))
      have h2 := h1.data
      have h3 := h1.most
      rw [List.length_append, PkR.ipb_len, L4R.enc_len]
      omega
    · simp
theorem PkR.bytes_bd {x : PkR} (hx : x.Fine) (h : x.Fits) : ∀ i, 0 ≤ x.bytes.getD i 0 ∧ x.bytes.getD i 0 ≤ 255 :=
  fits_append (fits_append (fits_append (headBytes_bd _ _ _ _ _) (PkR.inner_bd hx h)) hx.bd) hx.pd
theorem PkR.encHead {x : PkR} (hx : x.Fine) (h : Eth.fitsB x.d x.s x.tg x.tag x.et = true) (W : World) : Calls Try.prog 29 #[.agg #[.int .u64 x.d, .int .u64 x.s, .bool x.tg, .int .i64 x.tag, .int .i64 x.et]] W fun e w' => ∃ a cap, e = .returned (.tuple #[.slice a x.head.length cap, .int .i64 0]) ∧ w'.ownsRow W.heap.size 5 1 (.slice a x.head.length cap) x.head.length (x.head.map (Value.int .u8)) ∧ Below W.heap.size W w' := by
  unfold PkR.head
  cases g : x.tg
  · rw [g] at h
    exact Eth.encodeHead_plain x.d x.s x.tag x.et W hx.d.1 hx.s.1 h
  · rw [g] at h
    exact Eth.encodeHead_tagged x.d x.s x.tag x.et W hx.d.1 hx.s.1 h
theorem PkR.formT {x : PkR} (h : x = x.own) (W : World) : Calls Try.prog 28 #[.agg x.ps] W fun e w' => e = .returned (.bool true) ∧ Below W.heap.size W w' := by
  have := PkR.form x W
  rw [show x.eqB x.own = true by rw [← h]; exact PkR.eqB_self x] at this
  exact this
set_option maxHeartbeats 1000000 in
theorem PkR.innerYes {x : PkR} (hx : x.Fine) (h : x.Fits) (W : World) : Calls Try.prog 30 #[.agg x.ps] W fun e w' => ∃ a cap, e = .returned (.tuple #[.slice a x.inner.length cap, .int .i64 0]) ∧ RB W w' (.slice a x.inner.length cap) x.inner.length x.inner := by
  by_cases e1 : x.et = 2054
  · have hi : x.inner = Eth.arpBytes x.op x.sha x.spa x.tha x.tpa := by unfold PkR.inner; rw [if_pos e1]
    rw [hi, arpBytes_len]
    refine inner_arp x.ps (by rw [PkR.get5, (PkR.flagsA h.own e1).1]) _ _ _ _ _ (PkR.exA x) 28 _ W (fun V => ?_)
    refine (Eth.encodeArp_yes x.op x.sha x.spa x.tha x.tpa V hx.sha.1 hx.spa hx.tha.1 hx.tpa (h.arp e1)).mono ?_
    rintro e w' ⟨a, cap, rfl, o, b⟩
    exact ⟨a, cap, rfl, o, b⟩
  by_cases e2 : x.et = 2048
  · have hi : x.inner = x.ipb ++ x.l.enc x.src x.dst := by unfold PkR.inner; rw [if_neg e1, if_pos e2]
    have hl : x.inner.length = 20 + x.io.length + x.l.body.length := by rw [hi, List.length_append, PkR.ipb_len, L4R.enc_len]
    have hI := PkR.inner_len h
    rw [hl] at hI
    rw [hl, hi]
    have hf := PkR.flagsI h.own e2
    refine inner_ip x.ps (by rw [PkR.get5, hf.1]) (by rw [PkR.get11, hf.2.1]) _ _ _ _ _ _ _ _ _ _ _ _ _ _ _ _ _ _ _ _ _ _ (PkR.exI x) (PkR.exL x) _ _ W (fun V => ?_)
    refine printIp_ok _ _ _ _ _ _ _ _ _ _ _ _ _ _ _ _ _ _ _ _ _ _ x.l.body.length (20 + x.io.length) _ _ (by omega) V (fun U => ?_) (fun U => ?_)
    · exact encode_ok x.l hx.l (h.l4 e2) x.src x.dst hx.src hx.dst U
    · exact Ip.encode_yes x.tos x.id x.fr x.ttl x.pr x.src x.dst x.io x.l.body.length U hx.src hx.dst hx.io (h.ip e2)
  · have hi : x.inner = [] := by unfold PkR.inner; rw [if_neg e1, if_neg e2]
    have hf := PkR.flagsP h.own e1 e2
    rw [hi]
    refine (inner_none x.ps (by rw [PkR.get5, hf.1]) (by rw [PkR.get11, hf.2.1]) W).mono ?_
    rintro e w' ⟨rfl, b⟩
    exact ⟨none, 0, rfl, ⟨by simp, .inl ⟨rfl, rfl⟩⟩, b⟩
/-- Print of a packet that may be. -/
theorem PkR.printYes {x : PkR} (hx : x.Fine) (h : x.Fits) (hl : x.bytes.length ≤ 9018) (w : World) : Calls Try.prog 11 #[.agg x.ps] w fun e w' => ∃ a cap, e = .returned (.tuple #[.slice a x.bytes.length cap, .int .i64 0]) ∧ RB w w' (.slice a x.bytes.length cap) x.bytes.length x.bytes := by
  have hn : x.bytes.length = x.head.length + x.inner.length + x.bd.length + x.pd.length := by simp only [PkR.bytes, List.length_append]
  rw [hn] at hl
  have := print_ok x.ps (PkR.size x) x.d x.s x.tag x.et x.tg (PkR.exE x) x.bd x.pd (PkR.get34 x) (PkR.get35 x) hx.bd hx.pd x.head.length x.inner.length x.head x.inner (PkR.inner_bd hx h) hl w (fun W => PkR.formT h.own W) (fun W => PkR.encHead hx h.head W) (fun W => PkR.innerYes hx h W)
  rw [← hn] at this
  exact this
end Go.Proofs.Ytpiokeidcnbmbaa

namespace Go.Proofs.Ytpiokeidcnbmbaa
open Go.RowKit
set_option maxRecDepth 20000
theorem PkR.head_len (x : PkR) : x.head.length = if x.tg = true then 18 else 14 := headBytes_len _ _ _ _ _
theorem PkR.innerI {x : PkR} (e : x.et = 2048) : x.inner = x.ipb ++ x.l.enc x.src x.dst := by unfold PkR.inner; rw [if_neg (by omega), if_pos e]
theorem PkR.innerI_len {x : PkR} (e : x.et = 2048) : x.inner.length = 20 + x.io.length + x.l.body.length := by rw [PkR.innerI e, List.length_append, PkR.ipb_len, L4R.enc_len]
theorem PkR.bytesI {x : PkR} (h : x.Fits) (e : x.et = 2048) : x.bytes = x.head ++ (x.inner ++ x.pd) := by
  unfold PkR.bytes
  rw [(PkR.flagsI h.own e).2.2.1]; simp
theorem PkR.dropI {x : PkR} (h : x.Fits) (e : x.et = 2048) (A : Nat) (hA : x.head.length = A) : x.bytes.drop A = x.inner ++ x.pd := by
  rw [PkR.bytesI h e, List.drop_append_of_le_length (by omega), List.drop_of_length_le (by omega)]; rfl
theorem PkR.headV {x : PkR} (hx : x.Fine) (h : x.Fits) (hl : x.bytes.length ≤ 9018) (A : Nat) (hA : x.head.length = A) : Eth.headV x.bytes = Eth.ethV x.d x.s x.tg x.tag x.et A 0 := by
  have hb : x.bytes = Eth.headBytes x.d x.s x.tg x.tag x.et ++ (x.inner ++ x.bd ++ x.pd) := by unfold PkR.bytes PkR.head; simp
  have hn : x.bytes.length = x.head.length + (x.inner ++ x.bd ++ x.pd).length := by rw [hb, List.length_append]; rfl
  have := Eth.head_back x.d x.s x.tg x.tag x.et (x.inner ++ x.bd ++ x.pd) hx.d.1 hx.s.1 h.head (by have e1 : (Eth.headBytes x.d x.s x.tg x.tag x.et).length = x.head.length := rfl; omega)
  rw [← hb] at this
  rw [this, ← hA]; rfl
theorem PkR.mok {x : PkR} (hx : x.Fine) (h : x.Fits) (e : x.et = 2048) (A : Nat) (hA : x.head.length = A) : Ip.MOk (x.bytes.drop A) ((x.bytes.length - A : Nat) : Int) (20 + x.io.length) := by
  have hf := Ip.encOk_yes (h.ip e)
  have hn : x.bytes.length = x.head.length + (x.inner.length + x.pd.length) := by rw [PkR.bytesI h e, List.length_append, List.length_append]
  have := PkR.innerI_len e
  rw [PkR.dropI h e A hA, PkR.innerI e, List.append_assoc]
  exact Ip.hb_msr _ _ hf hx.src hx.dst hx.io (by omega)
theorem PkR.total {x : PkR} (h : x.Fits) (e : x.et = 2048) (A : Nat) (hA : x.head.length = A) : (x.bytes.drop A).getD 2 0 * 256 + (x.bytes.drop A).getD 3 0 = ((20 + x.io.length + x.l.body.length : Nat) : Int) := by
  rw [PkR.dropI h e A hA, PkR.innerI e, List.append_assoc]
  have := Ip.ipB_total x.tos x.id x.fr x.ttl x.pr x.src x.dst x.io x.l.body.length (x.l.enc x.src x.dst ++ x.pd)
  rw [show x.ipb = Ip.ipB x.tos x.id x.fr x.ttl x.pr x.src x.dst x.io x.l.body.length from rfl, this]
  omega
theorem PkR.ipRead {x : PkR} (h : x.Fits) (e : x.et = 2048) (A : Nat) (hA : x.head.length = A) : Ip.ipF (x.bytes.drop A) (20 + x.io.length) = .agg #[.int .i64 x.tos, .int .i64 x.id, .int .i64 x.fr, .int .i64 x.ttl, .int .i64 x.pr, .int .u32 x.src, .int .u32 x.dst, .string (strOfNums x.io)] := by
  rw [PkR.dropI h e A hA, PkR.innerI e, List.append_assoc]
  exact Ip.hb_read ..
theorem PkR.one (x : PkR) : x.ps.all (·.oneCell') = true := by kernel_rfl
end Go.Proofs.Ytpiokeidcnbmbaa
