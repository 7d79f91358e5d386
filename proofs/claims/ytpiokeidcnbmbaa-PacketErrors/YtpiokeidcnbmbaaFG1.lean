/- Parts of the proof, in one text. -/
import Derived.Test.YtpiokeidcnbmbaaIH
import Derived.Deep.RegionHeld3
import Derived.Deep.RegionWith
import Derived.Deep.DrawnRows
import Derived.Deep.RegionLaw
import Derived.Test.YtpiokeidcnbmbaaLOct
import Derived.WalkKit
import Derived.ScopeJumps
import Derived.WalkMore
import Derived.OpenShut
import Derived.WalkLawsBesides
import Derived.WalkSmall
import Derived.Below
import Derived.Laws.EntriesVeiled
import Derived.Laws.Rows
import Derived.Laws.Tables
import Derived.Laws.ResultCell
import Derived.Deep.WholeRow
import Derived.Deep.MidRow
import Derived.Deep.QuietTactic
import Derived.BigQuiet
import Derived.Test.YtpiokeidcnbmbaaXG
namespace Go.Proofs.Ytpiokeidcnbmbaa.Ip
open Go.RowKit
theorem ip_First_any (tos id frag ttl pr src dst : Int) (os : List Int) (w : World) : Calls Try.prog 46 #[ipV tos id frag ttl pr src dst os] w fun e w' => e = .returned (.bool (bits .and .i64 frag 8191 == 0)) ∧ Below w.heap.size w w' := by
  unfold ipV
  go_enter Try.func46, Try.ntmps46
  go_wp2
  go_ret
  exact ⟨rfl, below1 w _⟩
theorem r3_First_any (tos id frag ttl pr src dst : Int) (os : List Int) (w : World) : Calls Try.prog 38 #[ipV tos id frag ttl pr src dst os] w fun e w' => e = .returned (.bool (bits .and .i64 frag 8191 == 0)) ∧ Below w.heap.size w w' := by
  unfold ipV
  go_enter Try.func38, Try.ntmps38
  go_wp2
  go_ret
  exact ⟨rfl, below1 w _⟩
theorem r3_Whole_any (tos id frag ttl pr src dst : Int) (os : List Int) (w : World) : Calls Try.prog 25 #[ipV tos id frag ttl pr src dst os] w fun e w' => e = .returned (.bool (bits .and .i64 frag 16383 == 0)) ∧ Below w.heap.size w w' := by
  unfold ipV
  go_enter Try.func25, Try.ntmps25
  go_wp2
  go_ret
  exact ⟨rfl, below1 w _⟩
theorem ip_Whole_any (tos id frag ttl pr src dst : Int) (os : List Int) (w : World) : Calls Try.prog 20 #[ipV tos id frag ttl pr src dst os] w fun e w' => e = .returned (.bool ((bits .and .i64 frag 8191 == 0) && (bits .and .i64 frag 8192 == 0))) ∧ Below w.heap.size w w' := by
  have hun : ipV tos id frag ttl pr src dst os = .agg #[.int .i64 tos, .int .i64 id, .int .i64 frag, .int .i64 ttl, .int .i64 pr, .int .u32 src, .int .u32 dst, .string (strOfNums os)] := rfl
  rw [hun]
  cases c : (bits .and .i64 frag 8191 == 0)
  all_goals
    go_enter Try.func20, Try.ntmps20
    go_wp2_with fail
    rw [← hun]
    refine (ip_First_any tos id frag ttl pr src dst os _).mono ?_
    rintro e w1 ⟨rfl, hb⟩
    rw [c]
    obtain ⟨x0, x1, x2, x3, x4, x5, x6, x7⟩ := AtB.eight (AtB.below (atB_new w #[.int .i64 tos, .int .i64 id, .int .i64 frag, .int .i64 ttl, .int .i64 pr, .int .u32 src, .int .u32 dst, .string (strOfNums os)] 30 _ rfl) hb)
    go_wp2
    go_ret
    exact ⟨rfl, (below1 w _).trans (hb.mono (by simp))⟩

theorem andNat (n m : Int) (M : Nat) (hM : (BitVec.ofInt 64 m).toNat = M) (hs : M < 4611686018427387904) : bits .and .i64 n m = (((BitVec.ofInt 64 n).toNat &&& M : Nat) : Int) := by
  show IntKind.i64.wrap ((BitVec.ofInt 64 n &&& BitVec.ofInt 64 m).toNat : Nat) = _
  have h := Nat.and_le_right (n := (BitVec.ofInt 64 n).toNat) (m := M)
  rw [BitVec.toNat_and, hM, IntKind.wrap_i64]
  omega
theorem whole_same (n : Int) : ((bits .and .i64 n 8191 == 0) && (bits .and .i64 n 8192 == 0)) = (bits .and .i64 n 16383 == 0) := by
  rw [andNat n 8191 8191 (by decide) (by omega), andNat n 8192 8192 (by decide) (by omega), andNat n 16383 16383 (by decide) (by omega), show (16383 : Nat) = 8191 ||| 8192 from by decide, Nat.and_or_distrib_left]
  generalize (BitVec.ofInt 64 n).toNat &&& 8191 = x
  generalize (BitVec.ofInt 64 n).toNat &&& 8192 = y
  have := Nat.or_eq_zero_iff (n := x) (m := y)
  rw [Bool.eq_iff_iff]
  simp only [Bool.and_eq_true, beq_iff_eq, Int.natCast_eq_zero]
  exact this.symm
end Go.Proofs.Ytpiokeidcnbmbaa.Ip
namespace Go.Proofs.Ytpiokeidcnbmbaa
open Go.RowKit
def askedB (k ty co : Int) : Bool := k == 1 && (ty == 8 && co == 0)
def wholeB (fr : Int) : Bool := bits .and .i64 fr 16383 == 0
theorem ipwhole_any (tos id fr ttl pr src dst : Int) (io : List Int) (w : World) : Calls Try.prog 20 #[.agg #[.int .i64 tos, .int .i64 id, .int .i64 fr, .int .i64 ttl, .int .i64 pr, .int .u32 src, .int .u32 dst, .string (strOfNums io)]] w fun e w' => e = .returned (.bool (wholeB fr)) ∧ Below w.heap.size w w' := by
  have := Ip.ip_Whole_any tos id fr ttl pr src dst io w
  rw [Ip.whole_same] at this
  exact this
theorem rwhole_any (tos id fr ttl pr src dst : Int) (io : List Int) (w : World) : Calls Try.prog 25 #[.agg #[.int .i64 tos, .int .i64 id, .int .i64 fr, .int .i64 ttl, .int .i64 pr, .int .u32 src, .int .u32 dst, .string (strOfNums io)]] w fun e w' => e = .returned (.bool (wholeB fr)) ∧ Below w.heap.size w w' := Ip.r3_Whole_any tos id fr ttl pr src dst io w
theorem asked_any (k ty co re sp dp : Int) (ns : Bool) (sq ak fl wi ur : Int) (lo ds : List Int) (w : World) : Calls Try.prog 40 #[.agg #[.int .i64 k, .int .i64 ty, .int .i64 co, .int .u32 re, .int .i64 sp, .int .i64 dp, .bool ns, .int .u32 sq, .int .u32 ak, .int .i64 fl, .int .i64 wi, .int .i64 ur, .string (strOfNums lo), .string (strOfNums ds)]] w fun e w' => e = .returned (.bool (askedB k ty co)) ∧ Below w.heap.size w w' := by
  unfold askedB
  cases h1 : (k == 1)
  · go_enter Try.func40, Try.ntmps40
    go_wp2
    go_ret
    exact ⟨rfl, below1 w _⟩
  cases h2 : (ty == 8)
  · go_enter Try.func40, Try.ntmps40
    go_wp2
    go_ret
    exact ⟨rfl, below1 w _⟩
  cases h3 : (co == 0)
  · go_enter Try.func40, Try.ntmps40
    go_wp2
    go_ret
    exact ⟨rfl, below1 w _⟩
  · go_enter Try.func40, Try.ntmps40
    go_wp2
    go_ret
    exact ⟨rfl, below1 w _⟩
/-- A packet's cells. -/
def pk (d s tag et op sha spa tha tpa tos id fr ttl pr src dst k ty co re sp dp sq ak fl wi ur : Int) (tg ia ii ns : Bool) (io lo ds bd pd : List Int) : Array Value := #[.int .u64 d, .int .u64 s, .bool tg, .int .i64 tag, .int .i64 et, .bool ia, .int .i64 op, .int .u64 sha, .int .u32 spa, .int .u64 tha, .int .u32 tpa, .bool ii, .int .i64 tos, .int .i64 id, .int .i64 fr, .int .i64 ttl, .int .i64 pr, .int .u32 src, .int .u32 dst, .string (strOfNums io), .int .i64 k, .int .i64 ty, .int .i64 co, .int .u32 re, .int .i64 sp, .int .i64 dp, .bool ns, .int .u32 sq, .int .u32 ak, .int .i64 fl, .int .i64 wi, .int .i64 ur, .string (strOfNums lo), .string (strOfNums ds), .string (strOfNums bd), .string (strOfNums pd)]
def zeroPk : Array Value := #[.int .u64 0, .int .u64 0, .bool false, .int .i64 0, .int .i64 0, .bool false, .int .i64 0, .int .u64 0, .int .u32 0, .int .u64 0, .int .u32 0, .bool false, .int .i64 0, .int .i64 0, .int .i64 0, .int .i64 0, .int .i64 0, .int .u32 0, .int .u32 0, .string ⟨#[]⟩, .int .i64 0, .int .i64 0, .int .i64 0, .int .u32 0, .int .i64 0, .int .i64 0, .bool false, .int .u32 0, .int .u32 0, .int .i64 0, .int .i64 0, .int .i64 0, .string ⟨#[]⟩, .string ⟨#[]⟩, .string ⟨#[]⟩, .string ⟨#[]⟩]
end Go.Proofs.Ytpiokeidcnbmbaa

namespace Go.Proofs.Ytpiokeidcnbmbaa.Ip
open Go.RowKit

theorem eight_any (v : Int) (w : World) : Calls Try.prog 69 #[.int .i64 v] w fun e w' => e = .returned (.bool (fit8 v)) ∧ w' = w := by
  by_cases h1 : 0 ≤ v
  · have e : fit8 v = decide (v < 256) := by unfold fit8; rw [Bool.eq_iff_iff]; simp; omega
    rw [e]
    clear e
    go_enter Try.func69, Try.ntmps69
    go_wp2
    go_ret
    exact ⟨rfl, rfl⟩
  · have e : fit8 v = false := by simp [fit8, h1]
    rw [e]
    go_enter Try.func69, Try.ntmps69
    go_wp2
    go_ret
    exact ⟨by simp, rfl⟩
theorem sixteen_any (v : Int) (w : World) : Calls Try.prog 70 #[.int .i64 v] w fun e w' => e = .returned (.bool (fit16 v)) ∧ w' = w := by
  by_cases h1 : 0 ≤ v
  · have e : fit16 v = decide (v < 65536) := by unfold fit16; rw [Bool.eq_iff_iff]; simp; omega
    rw [e]
    clear e
    go_enter Try.func70, Try.ntmps70
    go_wp2
    go_ret
    exact ⟨rfl, rfl⟩
  · have e : fit16 v = false := by simp [fit16, h1]
    rw [e]
    go_enter Try.func70, Try.ntmps70
    go_wp2
    go_ret
    exact ⟨by simp, rfl⟩

set_option maxHeartbeats 2000000 in
theorem rencode_no (tos id frag ttl pr src dst : Int) (os : List Int) (data : Int) (w : World) (hn : os.length ≤ 140737488355328) (h : encOk tos id frag ttl pr os.length data = false) :
    Calls Try.prog 35 #[ipV tos id frag ttl pr src dst os, .int .i64 data] w fun e w' => e = .returned (.tuple #[.slice none 0 0, .int .i64 1]) ∧ Below w.heap.size w w' := by
  have hsz := strOfNums_size os
  have hnI : (os.length : Int) ≤ 140737488355328 := by omega
  have ht : (os.length : Int).tmod 4 = (os.length : Int) % 4 := Int.tmod_eq_emod_of_nonneg (by omega)
  rw [show ipV tos id frag ttl pr src dst os = .agg #[.int .i64 tos, .int .i64 id, .int .i64 frag, .int .i64 ttl, .int .i64 pr, .int .u32 src, .int .u32 dst, .string (strOfNums os)] from rfl]
  cases c0 : fit8 tos
  · clear h
    go_enter Try.func35, Try.ntmps35
    go_wp2_with (first
      | (go_at_call 69; refine (eight_any _ _).mono ?_; rintro e w' ⟨rfl, rfl⟩)
      | (go_at_call 70; refine (sixteen_any _ _).mono ?_; rintro e w' ⟨rfl, rfl⟩)
      | fail)
    go_ret2
    exact ⟨rfl, below1 w _⟩
  cases c1 : fit8 ttl
  · clear h
    go_enter Try.func35, Try.ntmps35
    go_wp2_with (first
      | (go_at_call 69; refine (eight_any _ _).mono ?_; rintro e w' ⟨rfl, rfl⟩)
      | (go_at_call 70; refine (sixteen_any _ _).mono ?_; rintro e w' ⟨rfl, rfl⟩)
      | fail)
    go_ret2
    exact ⟨rfl, below1 w _⟩
  cases c2 : fit8 pr
  · clear h
    go_enter Try.func35, Try.ntmps35
    go_wp2_with (first
      | (go_at_call 69; refine (eight_any _ _).mono ?_; rintro e w' ⟨rfl, rfl⟩)
      | (go_at_call 70; refine (sixteen_any _ _).mono ?_; rintro e w' ⟨rfl, rfl⟩)
      | fail)
    go_ret2
    exact ⟨rfl, below1 w _⟩
  cases c3 : fit16 id
  · clear h
    go_enter Try.func35, Try.ntmps35
    go_wp2_with (first
      | (go_at_call 69; refine (eight_any _ _).mono ?_; rintro e w' ⟨rfl, rfl⟩)
      | (go_at_call 70; refine (sixteen_any _ _).mono ?_; rintro e w' ⟨rfl, rfl⟩)
      | fail)
    go_ret2
    exact ⟨rfl, below1 w _⟩
  cases c4 : fit16 frag
  · clear h
    go_enter Try.func35, Try.ntmps35
    go_wp2_with (first
      | (go_at_call 69; refine (eight_any _ _).mono ?_; rintro e w' ⟨rfl, rfl⟩)
      | (go_at_call 70; refine (sixteen_any _ _).mono ?_; rintro e w' ⟨rfl, rfl⟩)
      | fail)
    go_ret2
    exact ⟨rfl, below1 w _⟩
  by_cases c6 : (40 : Int) < os.length
  · clear h
    go_enter Try.func35, Try.ntmps35
    go_wp2_with (first
      | (go_at_call 69; refine (eight_any _ _).mono ?_; rintro e w' ⟨rfl, rfl⟩)
      | (go_at_call 70; refine (sixteen_any _ _).mono ?_; rintro e w' ⟨rfl, rfl⟩)
      | fail)
    go_ret2
    exact ⟨rfl, below1 w _⟩
  cases c7 : ((os.length : Int) % 4 != 0)
  · have c7' : os.length % 4 = 0 := by simp at c7; omega
    by_cases c8 : data < 0
    · clear h
      go_enter Try.func35, Try.ntmps35
      go_wp2_with (first
        | (go_at_call 69; refine (eight_any _ _).mono ?_; rintro e w' ⟨rfl, rfl⟩)
        | (go_at_call 70; refine (sixteen_any _ _).mono ?_; rintro e w' ⟨rfl, rfl⟩)
        | fail)
      go_ret2
      exact ⟨rfl, below1 w _⟩
    · have c9 : 65535 - (20 + (os.length : Int)) < data := by
        simp [encOk, headOk, c0, c1, c2, c3, c4, c7'] at h
        omega
      clear h
      go_enter Try.func35, Try.ntmps35
      go_wp2_with (first
        | (go_at_call 69; refine (eight_any _ _).mono ?_; rintro e w' ⟨rfl, rfl⟩)
        | (go_at_call 70; refine (sixteen_any _ _).mono ?_; rintro e w' ⟨rfl, rfl⟩)
        | fail)
      go_ret2
      exact ⟨rfl, below1 w _⟩
  · clear h
    go_enter Try.func35, Try.ntmps35
    go_wp2_with (first
      | (go_at_call 69; refine (eight_any _ _).mono ?_; rintro e w' ⟨rfl, rfl⟩)
      | (go_at_call 70; refine (sixteen_any _ _).mono ?_; rintro e w' ⟨rfl, rfl⟩)
      | fail)
    go_ret2
    exact ⟨rfl, below1 w _⟩

end Go.Proofs.Ytpiokeidcnbmbaa.Ip

namespace Go.Proofs.Ytpiokeidcnbmbaa.Ip
open Go.RowKit
attribute [local go_sem ↓] Go.wp_at_zero Go.wp_at_succ

theorem pre_hb2 {tos id frag ttl pr src dst : Int} {os : List Int} {data : Int} (hf : HF tos id frag ttl pr os.length data) (hs : 0 ≤ src ∧ src ≤ 4294967295) (hd : 0 ≤ dst ∧ dst ≤ 4294967295) :
    [64 + (20 + (os.length : Int)) / 4, tos] ++ be (20 + (os.length : Int) + data) (2 : Int).toNat ++ be id (2 : Int).toNat ++ be frag (2 : Int).toNat ++ [ttl, pr, 0, 0] ++ be src (4 : Int).toNat ++ be dst (4 : Int).toNat ++ os = hb tos id frag ttl pr src dst os data 0 := by
  obtain ⟨f1, f2, f3, f4, f5, f6, f7, f8⟩ := hf
  have q8 : (2 : Int) ^ (8 * 1) = 256 := by decide
  have q0 : (2 : Int) ^ (8 * 0) = 1 := by decide
  have q16 : (2 : Int) ^ (8 * 2) = 65536 := by decide
  have q24 : (2 : Int) ^ (8 * 3) = 16777216 := by decide
  simp only [Int.reduceToNat, be, hb, List.nil_append, List.cons_append, List.cons.injEq, q0, q8, q16, q24]
  simp
  omega

set_option maxHeartbeats 4000000 in
theorem rencode_yes (tos id frag ttl pr src dst : Int) (os : List Int) (data : Int) (w : World) (hs : 0 ≤ src ∧ src ≤ 4294967295) (hd : 0 ≤ dst ∧ dst ≤ 4294967295) (ho : ∀ i, 0 ≤ os.getD i 0 ∧ os.getD i 0 ≤ 255) (h : encOk tos id frag ttl pr os.length data = true) :
    Calls Try.prog 35 #[ipV tos id frag ttl pr src dst os, .int .i64 data] w fun e w' => ∃ a cap, e = .returned (.tuple #[.slice a (20 + os.length) cap, .int .i64 0]) ∧ BS w' a (20 + os.length) (ipB tos id frag ttl pr src dst os data) ∧ Below w.heap.size w w' := by
  obtain ⟨f1, f2, f3, f4, f5, f6, f7, f8⟩ := encOk_yes h
  have HF0 : Hid (HF tos id frag ttl pr os.length data) := encOk_yes h
  have c0 : fit8 tos = true := by simp [fit8, f1]
  have c1 : fit8 ttl = true := by simp [fit8, f2]
  have c2 : fit8 pr = true := by simp [fit8, f3]
  have c3 : fit16 id = true := by simp [fit16, f4]
  have c4 : fit16 frag = true := by simp [fit16, f5]
  clear h
  have hsz := strOfNums_size os
  have hnI : (os.length : Int) ≤ 40 := by omega
  have hn40 : ¬ (40 : Int) < os.length := by omega
  have ht : (os.length : Int).tmod 4 = (os.length : Int) % 4 := Int.tmod_eq_emod_of_nonneg (by omega)
  have ht0 : ((os.length : Int) % 4 != 0) = false := by simp; omega
  have hd0 : ¬ data < 0 := by omega
  have hd1 : ¬ 65535 - (20 + (os.length : Int)) < data := by omega
  rw [show ipV tos id frag ttl pr src dst os = .agg #[.int .i64 tos, .int .i64 id, .int .i64 frag, .int .i64 ttl, .int .i64 pr, .int .u32 src, .int .u32 dst, .string (strOfNums os)] from rfl]
  go_enter Try.func35, Try.ntmps35
  go_wp2_with (first
      | (go_at_call 69; refine (eight_any _ _).mono ?_; rintro e w' ⟨rfl, rfl⟩)
      | (go_at_call 70; refine (sixteen_any _ _).mono ?_; rintro e w' ⟨rfl, rfl⟩)
      | fail)
  clear c0 c1 c2 c3 c4 ht ht0
  have hA := atB_new w #[.int .i64 tos, .int .i64 id, .int .i64 frag, .int .i64 ttl, .int .i64 pr, .int .u32 src, .int .u32 dst, .string (strOfNums os)] 30 _ rfl
  have hbw := below1 w (.cells #[.int .i64 tos, .int .i64 id, .int .i64 frag, .int .i64 ttl, .int .i64 pr, .int .u32 src, .int .u32 dst, .string (strOfNums os)] 30)
  have r0 : RB (w.alloc (.cells #[.int .i64 tos, .int .i64 id, .int .i64 frag, .int .i64 ttl, .int .i64 pr, .int .u32 src, .int .u32 dst, .string (strOfNums os)] 30)) ((w.alloc (.cells #[.int .i64 tos, .int .i64 id, .int .i64 frag, .int .i64 ttl, .int .i64 pr, .int .u32 src, .int .u32 dst, .string (strOfNums os)] 30)).alloc (.cells #[.int .u8 (64 + (20 + (os.length : Int)) / 4), .int .u8 tos] 5)) (.slice (some ⟨w.heap.size + 1, 0, none⟩) 2 2) 2 [64 + (20 + (os.length : Int)) / 4, tos] := by
    refine ⟨?_, below1 _ _⟩
    have := World.ownsRow_lit (base := (w.alloc (.cells #[.int .i64 tos, .int .i64 id, .int .i64 frag, .int .i64 ttl, .int .i64 pr, .int .u32 src, .int .u32 dst, .string (strOfNums os)] 30)).heap.size) (e := 5) (size := 1) (w.alloc (.cells #[.int .i64 tos, .int .i64 id, .int .i64 frag, .int .i64 ttl, .int .i64 pr, .int .u32 src, .int .u32 dst, .string (strOfNums os)] 30)) #[.int .u8 (64 + (20 + (os.length : Int)) / 4), .int .u8 tos] 2 (Nat.le_refl _) (by unfold maxLen; omega) rfl
    simpa using this
  have hw1 : w.heap.size < (w.alloc (.cells #[.int .i64 tos, .int .i64 id, .int .i64 frag, .int .i64 ttl, .int .i64 pr, .int .u32 src, .int .u32 dst, .string (strOfNums os)] 30)).heap.size := by simp
  have hw1' : (w.alloc (.cells #[.int .i64 tos, .int .i64 id, .int .i64 frag, .int .i64 ttl, .int .i64 pr, .int .u32 src, .int .u32 dst, .string (strOfNums os)] 30)).heap.size = w.heap.size + 1 := by simp
  have HA : Hid (AtB (w.alloc (.cells #[.int .i64 tos, .int .i64 id, .int .i64 frag, .int .i64 ttl, .int .i64 pr, .int .u32 src, .int .u32 dst, .string (strOfNums os)] 30)) w.heap.size #[.int .i64 tos, .int .i64 id, .int .i64 frag, .int .i64 ttl, .int .i64 pr, .int .u32 src, .int .u32 dst, .string (strOfNums os)]) := hA
  clear hA
  generalize (w.alloc (.cells #[.int .i64 tos, .int .i64 id, .int .i64 frag, .int .i64 ttl, .int .i64 pr, .int .u32 src, .int .u32 dst, .string (strOfNums os)] 30)) = w1 at *
  have R0 : Hid _ := r0
  refine (bytes_next made2 (by omega) r0 _ (by omega)).mono ?_
  rintro e W1 ⟨a1, rfl, r1, b1⟩
  clear r0 R0
  obtain ⟨x0, x1, x2, x3, x4, x5, x6, x7⟩ := AtB.eight (AtB.below HA.out r1.bel)
  go_wp2_with (at_builtin; refine wpList_append_rb Try.underlying22 info5 ?_ (.tmp 72) (.tmp 77) ?_ _ _ _ ?_ r1 _ _ 2 _ ?_ b1 ?_ ?_; rfl; rfl; rfl; rfl; simp; intro a2 c2 W2 r2; clear x0 x1 x2 x3 x4 x5 x6 x7; obtain ⟨x0, x1, x2, x3, x4, x5, x6, x7⟩ := AtB.eight (AtB.below HA.out r2.bel); clear r1 b1)
  refine (bytes_next made2 (by omega) r2 _ (by omega)).mono ?_
  rintro e W3 ⟨a3, rfl, r3, b3⟩
  clear r2 x0 x1 x2 x3 x4 x5 x6 x7
  obtain ⟨x0, x1, x2, x3, x4, x5, x6, x7⟩ := AtB.eight (AtB.below HA.out r3.bel)
  go_wp2_with (at_builtin; refine wpList_append_rb Try.underlying22 info5 ?_ (.tmp 79) (.tmp 83) ?_ _ _ _ ?_ r3 _ _ 2 _ ?_ b3 ?_ ?_; rfl; rfl; rfl; rfl; simp; intro a4 c4 W4 r4; clear x0 x1 x2 x3 x4 x5 x6 x7; obtain ⟨x0, x1, x2, x3, x4, x5, x6, x7⟩ := AtB.eight (AtB.below HA.out r4.bel); clear r3 b3)
  refine (bytes_next made2 (by omega) r4 _ (by omega)).mono ?_
  rintro e W5 ⟨a5, rfl, r5, b5⟩
  clear r4 x0 x1 x2 x3 x4 x5 x6 x7
  obtain ⟨x0, x1, x2, x3, x4, x5, x6, x7⟩ := AtB.eight (AtB.below HA.out r5.bel)
  go_wp2_with (first
    | (at_builtin; refine wpList_append_rb Try.underlying22 info5 ?_ (.tmp 85) (.tmp 89) ?_ _ _ _ ?_ r5 _ _ 2 _ ?_ b5 ?_ ?_; rfl; rfl; rfl; rfl; simp; intro a6 c6 W6 r6; clear x0 x1 x2 x3 x4 x5 x6 x7; obtain ⟨x0, x1, x2, x3, x4, x5, x6, x7⟩ := AtB.eight (AtB.below HA.out r6.bel); clear r5 b5)
    | (at_builtin; refine wpList_append_rb (w1 := w1) Try.underlying22 info5 ?_ (.tmp 91) (.tmp 98) ?_ (.slice a6 8 c6) 8 _ ?_ ⟨r6.own.alloc _, r6.bel.alloc r6.bel.size _⟩ _ _ 4 [ttl, pr, 0, 0] ?_ (bs_new 5 W6 #[.int .u8 ttl, .int .u8 pr, .int .u8 0, .int .u8 0] [ttl, pr, 0, 0] 4 _ rfl rfl rfl (by simp; omega) (by omega)) ?_ ?_; rfl; rfl; rfl; rfl; omega; intro a7 c7 W7 r7; clear x0 x1 x2 x3 x4 x5 x6 x7; obtain ⟨x0, x1, x2, x3, x4, x5, x6, x7⟩ := AtB.eight (AtB.below HA.out r7.bel); clear r6)
    | fail)
  refine (bytes_next made4 (by omega) r7 _ (by omega)).mono ?_
  rintro e W8 ⟨a8, rfl, r8, b8⟩
  clear r7 x0 x1 x2 x3 x4 x5 x6 x7
  obtain ⟨x0, x1, x2, x3, x4, x5, x6, x7⟩ := AtB.eight (AtB.below HA.out r8.bel)
  go_wp2_with (first
    | (at_builtin; refine wpList_append_rb Try.underlying22 info5 ?_ (.tmp 100) (.tmp 104) ?_ _ _ _ ?_ r8 _ _ 4 _ ?_ b8 ?_ ?_; rfl; rfl; rfl; rfl; simp; intro a9 c9 W9 r9; clear x0 x1 x2 x3 x4 x5 x6 x7; obtain ⟨x0, x1, x2, x3, x4, x5, x6, x7⟩ := AtB.eight (AtB.below HA.out r9.bel); clear r8 b8)
    | fail)
  obtain ⟨i0, hi, hz0, hz1, hz2⟩ := info_parts info5
  refine (bytes_next made4 (by omega) r9 _ (by omega)).mono ?_
  rintro e W10 ⟨a10, rfl, r10, b10⟩
  clear r9 x0 x1 x2 x3 x4 x5 x6 x7
  obtain ⟨x0, x1, x2, x3, x4, x5, x6, x7⟩ := AtB.eight (AtB.below HA.out r10.bel)
  go_wp2_with (first
    | (at_builtin; refine wpList_append_rb Try.underlying22 info5 ?_ (.tmp 106) (.tmp 110) ?_ _ _ _ ?_ r10 _ _ 4 _ ?_ b10 ?_ ?_; rfl; rfl; rfl; rfl; simp; intro a11 c11 W11 r11; clear x0 x1 x2 x3 x4 x5 x6 x7; obtain ⟨x0, x1, x2, x3, x4, x5, x6, x7⟩ := AtB.eight (AtB.below HA.out r11.bel); clear r10 b10)
    | (at_builtin; refine wpList_append_str rfl (.tmp 112) (.tmp 114) 22 9 rfl w1.heap.size 5 i0 Try.underlying22 Try.underlying9 hi hz0 hz1 hz2 (.slice a11 20 c11) 20 _ rfl r11.own os ho rfl (by omega) r11.bel.size ?_; intro a12 c12 W12 o12 g12; have b12 : Below w1.heap.size w1 W12 := r11.bel.grown g12 r11.bel.size (fun k hk => (World.ownsRow.lt r11.own k hk).1); clear x0 x1 x2 x3 x4 x5 x6 x7)
    | fail)
  have hX := pre_hb2 HF0.out hs hd
  have ho12 : W12.ownsRow w1.heap.size 5 1 (.slice a12 (20 + os.length) c12) (20 + os.length) ((hb tos id frag ttl pr src dst os data 0).map (Value.int .u8)) := by
    rw [← hX]; exact o12
  obtain ⟨g, rfl, hg1, hg2⟩ := own_some ho12 (by omega)
  have hE : EncS w1 W12 g (20 + os.length) c12 (hb tos id frag ttl pr src dst os data 0) := ⟨ho12, b12, hb_bd (chk := 0) HF0.out hs hd ho (by omega), by omega⟩
  have hcb := hchk_bd HF0.out hs hd ho
  have hdef : Hid (65535 - fld (wsum (hb tos id frag ttl pr src dst os data 0)) = hchk tos id frag ttl pr src dst os data) := rfl
  have hset : Hid _ := hb_set tos id frag ttl pr src dst os data (hchk tos id frag ttl pr src dst os data)
  clear hX ho12 o12 g12 r11 hg1 hg2 hi hz0 hz1 hz2
  generalize hCe : hchk tos id frag ttl pr src dst os data = C at *
  have HCe : Hid (hchk tos id frag ttl pr src dst os data = C) := hCe
  clear hCe
  have hcl : (hb tos id frag ttl pr src dst os data 0).length = 20 + os.length := hb_len ..
  generalize hb tos id frag ttl pr src dst os data 0 = B0 at *
  refine (rcheck_any _ hE.bs).mono ?_
  rintro e V1 ⟨rfl, rfl⟩
  rw [hdef.out]
  have y0 := hE.cell 10 (by omega)
  have y1 := hE.cell 11 (by omega)
  have z0 := hE.own.frozenAt 10
  have z1 := hE.own.frozenAt 11
  have hlI1 : (10 : Int) < 20 + os.length := by omega
  have hlI2 : (11 : Int) < 20 + os.length := by omega
  have HE : Hid _ := hE
  clear hE
  go_wp2
  rw [show IntKind.u16.wrap (C.tdiv 256) % 256 = C / 256 from by rw [Int.tdiv_eq_ediv_of_nonneg hcb.1, IntKind.wrap_u16]; omega]
  go_ret2
  have h2 := (HE.out.set 10 (C / 256) (by omega)).set 11 (C % 256) (by omega)
  rw [hset.out] at h2
  refine ⟨some ⟨g, 0, none⟩, c12, rfl, ?_, ?_⟩
  · unfold ipB
    rw [HCe.out]
    exact h2.bs
  · exact hbw.trans (h2.bel.mono (by omega))
end Go.Proofs.Ytpiokeidcnbmbaa.Ip

namespace Go.Proofs.Ytpiokeidcnbmbaa.Ca
open Go.RowKit
theorem cell_lt {w : World} {a : Addr} {v : Value} (h : w.cell? a = some v) : a.block < w.heap.size := by
  unfold World.cell? at h
  by_cases hb : a.block < w.heap.size
  · exact hb
  · have : w.heap[a.block]? = none := Array.getElem?_eq_none (by omega)
    simp [this] at h
/-- A whole struct into the block that was made last. -/
theorem wpList_store_new {P : Program} {ops : Array Oper} {rest : List Oper} {op : Oper} {a : Act} {w : World} {Q : Exit → Act → World → Prop} (hgd : op.guard = none) (ty : TypeId) (x y : Operand) (ho : op.op = .store ty x y)
    (c c' : Array Value) (b : Nat) (hb : b = w.heap.size) (hx : a.eval x = .pointer (some ⟨b, 0, none⟩)) (hy : a.eval y = .agg c')
    (hi : (P.info? ty).map (·.size) = some c'.size) (hs : c.size = c'.size) (h1 : c'.all (·.oneCell') = true)
    (h : wpList P ops Q rest (a.put op.dst undef) (w.alloc (.cells c' ty))) : wpList P ops Q (op :: rest) a (w.alloc (.cells c ty)) := by
  subst hb
  refine wpList_plain hgd fun K hK => ?_
  unfold Oper.wp execOp
  simp only [ho, hx, hy, Sem.run_bind, run_storeAt_new w ty c c' hi hs h1]
  exact hK _ _ h
theorem below_drewN {n : Nat} {w w' : World} (h : Below n w w') (k : Nat) : Below n w (w'.drewN k) := ⟨h.os, h.tape, h.output, h.size, h.block⟩
theorem drewN_alloc (w : World) (A : Obj) (n : Nat) : (w.alloc A).drewN n = (w.drewN n).alloc A := rfl
theorem below1 (w : World) (A : Obj) : Below w.heap.size w (w.alloc A) := (Below.refl _ _).alloc (Nat.le_refl _) A
theorem below2 (w : World) (A B : Obj) : Below w.heap.size w ((w.alloc A).alloc B) := (below1 w A).alloc (by simp) B
theorem set_one {cs : Array Value} {i : Nat} {v : Value} (h1 : cs.all (·.oneCell') = true) (hv : v.oneCell' = true) : (cs.setIfInBounds i v).all (·.oneCell') = true := by
  rw [Array.all_eq_true_iff_forall_mem] at *
  intro x hx
  obtain ⟨j, hj, rfl⟩ := Array.mem_iff_getElem.1 hx
  rw [Array.getElem_setIfInBounds]
  split
  · exact hv
  · exact h1 _ (Array.getElem_mem _)
  · simpa using hj
theorem two_first (w : World) (A B : Obj) : ((w.alloc A).alloc B).heap[w.heap.size]? = some A := (heap_alloc_old _ _ (by simp)).trans (heap_alloc_new _ _)
theorem two_last (w : World) (A B : Obj) : ((w.alloc A).alloc B).heap[w.heap.size + 1]? = some B := by
  have := heap_alloc_new (w.alloc A) B
  simpa using this
theorem three_first (w : World) (A B C : Obj) : (((w.alloc A).alloc B).alloc C).heap[w.heap.size]? = some A := (heap_alloc_old _ _ (by simp; omega)).trans (two_first _ _ _)
theorem four_first (w : World) (A B C D : Obj) : ((((w.alloc A).alloc B).alloc C).alloc D).heap[w.heap.size]? = some A := (heap_alloc_old _ _ (by simp; omega)).trans (three_first _ _ _ _)
theorem below3 (w : World) (A B C : Obj) : Below w.heap.size w (((w.alloc A).alloc B).alloc C) := (below2 w A B).alloc (by simp; omega) C
theorem below4 (w : World) (A B C D : Obj) : Below w.heap.size w ((((w.alloc A).alloc B).alloc C).alloc D) := (below3 w A B C).alloc (by simp; omega) D
theorem cell_row {W : World} {g : Nat} {cs : Array Value} {t : TypeId} (h : W.heap[g]? = some (.cells cs t (0, 0))) (i : Nat) : W.cell? ⟨g, i, none⟩ = cs[i]? := cell_of_row W g i cs t (0, 0) h
/-- A whole struct into a block. -/
theorem wpList_store_row {P : Program} {ops : Array Oper} {rest : List Oper} {op : Oper} {a : Act} {w : World} {Q : Exit → Act → World → Prop} (hgd : op.guard = none) (ty : TypeId) (x y : Operand) (ho : op.op = .store ty x y)
    (g : Nat) (old c' : Array Value) (t : TypeId) (hx : a.eval x = .pointer (some ⟨g, 0, none⟩)) (hy : a.eval y = .agg c') (hg : w.heap[g]? = some (.cells old t (0, 0)))
    (hi : (P.info? ty).map (·.size) = some c'.size) (hs : old.size = c'.size) (h1 : c'.all (·.oneCell') = true)
    (h : ∀ w', w'.heap[g]? = some (.cells c' t (0, 0)) → (∀ k, k ≠ g → w'.heap[k]? = w.heap[k]?) → w'.heap.size = w.heap.size → Below g w w' → wpList P ops Q rest (a.put op.dst undef) w') : wpList P ops Q (op :: rest) a w := by
  refine wpList_plain hgd fun K hK => ?_
  unfold Oper.wp execOp
  simp only [ho, hx, hy, Sem.run_bind, Instr.storeAt, Instr.sureAddr, Sem.run_pure, Result.andThen_ok, run_storeVar_row w g t ty old c' hg hi hs h1]
  have e1 : (w.setRow g c').heap.size = w.heap.size := by simp [World.setRow]
  have e2 : ∀ k, k ≠ g → (w.setRow g c').heap[k]? = w.heap[k]? := fun k hk => by
    simp only [World.setRow, Array.getElem?_modify]
    rw [if_neg (fun e => hk e.symm)]
  have e3 : (w.setRow g c').heap[g]? = some (.cells c' t (0, 0)) := by
    simp only [World.setRow, Array.getElem?_modify, hg]
    simp
  exact hK _ _ (h _ e3 e2 e1 ⟨rfl, rfl, rfl, by omega, fun k hk => e2 k (by omega)⟩)
theorem lt_of_heap {W : World} {g : Nat} {o : Obj} (h : W.heap[g]? = some o) : g < W.heap.size := by
  rcases Nat.lt_or_ge g W.heap.size with h' | h'
  · exact h'
  · simp [Array.getElem?_eq_none h'] at h
theorem wpList_build_as {P : Program} {ops : Array Oper} {rest : List Oper} {op : Oper} {a : Act} {w : World} {Q : Exit → Act → World → Prop} (hgd : op.guard = none) (t : TypeId) (parts : Array (Nat × Operand)) (ho : op.op = .build t parts)
    (cells : Array Value) (hc : P.built t (parts.map fun (i, x) => (i, a.eval x)).toList = some cells)
    (h : wpList P ops Q rest (a.put op.dst (.agg cells)) w) : wpList P ops Q (op :: rest) a w := by
  refine wpList_plain hgd fun K hK => ?_
  unfold Oper.wp execOp
  simp only [ho, Sem.run_bind, run_build w t _ cells hc, Result.andThen_ok]
  exact hK _ _ h
theorem wpList_load_at {P : Program} {ops : Array Oper} {rest : List Oper} {op : Oper} {a : Act} {w : World} {Q : Exit → Act → World → Prop} (hgd : op.guard = none) (ty : TypeId) (x : Operand) (ho : op.op = .load ty x)
    (g o n : Nat) (hx : a.eval x = .pointer (some ⟨g, o, none⟩)) (cs : Array Value) (t : TypeId) (d : TypeDesc) (hg : w.heap[g]? = some (.cells cs t (0, 0)))
    (hu : P.underlying ty = some d) (hd : d.isRow = true) (hn : (cs.extract o (o + n)).size = n) (hi : (P.info? ty).map (·.size) = some n)
    (h : wpList P ops Q rest (a.put op.dst (.agg (cs.extract o (o + n)))) w) : wpList P ops Q (op :: rest) a w := by
  have hr := World.rangeAt_of_block hg o n
  refine wpList_load_mid hgd ty x ho g o hx (cs.extract o (o + n)).toList d hr hu hd (by rw [Array.length_toList, hn]; exact hi) ?_
  rw [Array.toArray_toList]
  exact h
theorem extract_one {cs : Array Value} (h : cs.all (·.oneCell') = true) (i j : Nat) : (cs.extract i j).all (·.oneCell') = true := by
  rw [Array.all_eq_true_iff_forall_mem] at *
  intro x hx
  obtain ⟨q, hq, rfl⟩ := Array.mem_iff_getElem.1 hx
  rw [Array.getElem_extract]
  exact h _ (Array.getElem_mem _)
theorem bcell {W w1 : World} (hb : Below W.heap.size W w1) : (∀ b o, b < W.heap.size → w1.cell? ⟨b, o, none⟩ = W.cell? ⟨b, o, none⟩) ∧ (∀ b o, b < W.heap.size → w1.frozen? ⟨b, o, none⟩ = W.frozen? ⟨b, o, none⟩) :=
  ⟨fun b o h => hb.cell (p := ⟨b, o, none⟩) h, fun b o h => hb.frozen (p := ⟨b, o, none⟩) h⟩
theorem wpList_load_want {P : Program} {ops : Array Oper} {rest : List Oper} {o : Oper} {a : Act} {w : World} {Q : Exit → Act → World → Prop} (hw : Region.wanted o (yielded ops a.tmps) = true) (ty : TypeId) (x : Operand) (ho : o.op = .load ty x)
    (g : Nat) (hx : a.eval x = .pointer (some ⟨g, 0, none⟩)) (t : TypeId) (cs : Array Value) (fr : Nat × Nat) (d : TypeDesc) (hg : w.heap[g]? = some (.cells cs t fr))
    (hu : P.underlying ty = some d) (hd : (match d with | .struct _ | .array _ _ => true | _ => false) = true) (hi : (P.info? ty).map (·.size) = some cs.size)
    (h : wpList P ops Q rest (a.put o.dst (.agg cs)) w) : wpList P ops Q (o :: rest) a w :=
  BigFrame.wpList_want hw fun _ hK => wp_load_row ty x ho g hx t cs fr d hg hu hd hi (hK _ _ h)
theorem three_last (w : World) (A B C : Obj) : (((w.alloc A).alloc B).alloc C).heap[w.heap.size + 1 + 1]? = some C := by
  have := heap_alloc_new ((w.alloc A).alloc B) C
  simpa using this
theorem wpList_load_as {P : Program} {ops : Array Oper} {rest : List Oper} {op : Oper} {a : Act} {w : World} {Q : Exit → Act → World → Prop} (hgd : op.guard = none) (ty : TypeId) (x : Operand) (ho : op.op = .load ty x)
    (g o n : Nat) (hx : a.eval x = .pointer (some ⟨g, o, none⟩)) (cs L : Array Value) (t : TypeId) (d : TypeDesc) (hg : w.heap[g]? = some (.cells cs t (0, 0)))
    (hu : P.underlying ty = some d) (hd : d.isRow = true) (hL : cs.extract o (o + n) = L) (hn : L.size = n) (hi : (P.info? ty).map (·.size) = some n)
    (h : wpList P ops Q rest (a.put op.dst (.agg L)) w) : wpList P ops Q (op :: rest) a w := by
  subst hL
  exact wpList_load_at hgd ty x ho g o n hx cs t d hg hu hd hn hi h
theorem row_setCell {w : World} {b : Nat} {cs : Array Value} {t : TypeId} (h : w.heap[b]? = some (.cells cs t (0, 0))) (o : Nat) (v : Value) : (w.setCell ⟨b, o, none⟩ v).heap[b]? = some (.cells (cs.setIfInBounds o v) t (0, 0)) := by
  have hlt : b < w.heap.size := lt_of_heap h
  have hv : w.heap[b] = .cells cs t (0, 0) := (Array.getElem?_eq_some_iff.1 h).2
  unfold World.setCell
  simp [Array.getElem?_modify, h]
/-- A row with other cells from a place on. -/
def putC : Array Value → Nat → List Value → Array Value
  | cs, _, [] => cs
  | cs, o, v :: r => putC (cs.setIfInBounds o v) (o + 1) r
theorem putC_size : ∀ (vs : List Value) (cs : Array Value) (o : Nat), (putC cs o vs).size = cs.size
  | [], _, _ => rfl
  | v :: r, cs, o => by rw [putC, putC_size r]; simp
theorem row_setCells : ∀ (vs : List Value) {w : World} {b : Nat} {cs : Array Value} {t : TypeId} (_ : w.heap[b]? = some (.cells cs t (0, 0))) (o : Nat), (w.setCells b o vs).heap[b]? = some (.cells (putC cs o vs) t (0, 0))
  | [], _, _, _, _, h, _ => h
  | v :: r, w, b, cs, t, h, o => by
    rw [World.setCells, putC]
    exact row_setCells r (row_setCell h o v) (o + 1)
theorem heap_setCells : ∀ (vs : List Value) (w : World) (b o : Nat), (w.setCells b o vs).heap.size = w.heap.size ∧ (∀ k, k ≠ b → (w.setCells b o vs).heap[k]? = w.heap[k]?) ∧ Below b w (w.setCells b o vs)
  | [], w, b, o => ⟨rfl, fun _ _ => rfl, Below.refl _ _⟩
  | v :: r, w, b, o => by
    obtain ⟨h1, h2, h3⟩ := heap_setCells r (w.setCell ⟨b, o, none⟩ v) b (o + 1)
    have e1 : (w.setCell ⟨b, o, none⟩ v).heap.size = w.heap.size := by simp [World.setCell]
    refine ⟨h1.trans e1, fun k hk => (h2 k hk).trans (Below.heap_setCell _ _ _ _ hk), ?_⟩
    have h0 : Below b w (w.setCell ⟨b, o, none⟩ v) := (Below.refl b w).setCell (Nat.le_refl _) v
    exact h0.trans h3
theorem there_row {w : World} {b : Nat} {cs : Array Value} {t : TypeId} (h : w.heap[b]? = some (.cells cs t (0, 0))) (o n : Nat) (hn : o + n ≤ cs.size) : w.there b o n := fun j hj => by
  refine ⟨?_, frozen_of_row w b _ cs t h⟩
  rw [cell_row h, Array.getElem?_eq_getElem (by omega)]; rfl
/-- A struct into the midst of a block. -/
theorem wpList_store_at {P : Program} {ops : Array Oper} {rest : List Oper} {op : Oper} {a : Act} {w : World} {Q : Exit → Act → World → Prop} (hgd : op.guard = none) (ty : TypeId) (x y : Operand) (ho : op.op = .store ty x y)
    (g o : Nat) (old c' : Array Value) (t : TypeId) (hx : a.eval x = .pointer (some ⟨g, o, none⟩)) (hy : a.eval y = .agg c') (hg : w.heap[g]? = some (.cells old t (0, 0)))
    (hi : (P.info? ty).map (·.size) = some c'.size) (hs : o + c'.size ≤ old.size) (h1 : c'.all (·.oneCell') = true)
    (h : ∀ w', w'.heap[g]? = some (.cells (putC old o c'.toList) t (0, 0)) → (∀ k, k ≠ g → w'.heap[k]? = w.heap[k]?) → w'.heap.size = w.heap.size → Below g w w' → wpList P ops Q rest (a.put op.dst undef) w') : wpList P ops Q (op :: rest) a w := by
  obtain ⟨e1, e2, e3⟩ := heap_setCells c'.toList w g o
  exact wpList_store_mid hgd ty x y ho g o c' hx hy (there_row hg o _ hs) hi h1 (h _ (row_setCells _ hg o) e2 e1 e3)
/-- A whole struct into a block: the operation. -/
theorem wp_store_row {P : Program} {op : Oper} {a : Act} {w : World} {K : Act → World → Prop} {Q : Exit → Act → World → Prop} (ty : TypeId) (x y : Operand) (ho : op.op = .store ty x y)
    (g : Nat) (old c' : Array Value) (t : TypeId) (hx : a.eval x = .pointer (some ⟨g, 0, none⟩)) (hy : a.eval y = .agg c') (hg : w.heap[g]? = some (.cells old t (0, 0)))
    (hi : (P.info? ty).map (·.size) = some c'.size) (hs : old.size = c'.size) (h1 : c'.all (·.oneCell') = true)
    (h : ∀ w', w'.heap[g]? = some (.cells c' t (0, 0)) → (∀ k, k ≠ g → w'.heap[k]? = w.heap[k]?) → w'.heap.size = w.heap.size → Below g w w' → K (a.put op.dst undef) w') : op.wp P a w K Q := by
  unfold Oper.wp execOp
  simp only [ho, hx, hy, Sem.run_bind, Instr.storeAt, Instr.sureAddr, Sem.run_pure, Result.andThen_ok, run_storeVar_row w g t ty old c' hg hi hs h1]
  have e1 : (w.setRow g c').heap.size = w.heap.size := by simp [World.setRow]
  have e2 : ∀ k, k ≠ g → (w.setRow g c').heap[k]? = w.heap[k]? := fun k hk => by
    simp only [World.setRow, Array.getElem?_modify]
    rw [if_neg (fun e => hk e.symm)]
  have e3 : (w.setRow g c').heap[g]? = some (.cells c' t (0, 0)) := by
    simp only [World.setRow, Array.getElem?_modify, hg]
    simp
  exact h _ e3 e2 e1 ⟨rfl, rfl, rfl, by omega, fun k hk => e2 k (by omega)⟩
theorem yields_loadR {ops : Array Oper} {S : World → Prop} {op : Oper} {a : Act} (hw : Region.wanted op (yielded ops a.tmps) = true) (ty : TypeId) (x : Operand) (ho : op.op = .load ty x)
    (b : Nat) (hx : a.eval x = .pointer (some ⟨b, 0, none⟩)) (t : TypeId) (cs : Array Value) (d : TypeDesc) (hS : ∀ w, S w → w.heap[b]? = some (.cells cs t (0, 0)))
    (hu : Try.prog.underlying ty = some d) (hd : d.isRow = true) (hi : (Try.prog.info? ty).map (·.size) = some cs.size) : YieldsIf Try.prog ops S op (.agg cs) a := by
  have := yieldsIf_load_mid (P := Try.prog) (ops := ops) (S := S) (op := op) (a := a) hw ty x ho b 0 hx cs.toList d (fun w hw' => by
    have h := World.rangeAt_of_block (hS w hw') 0 cs.size
    simpa using h) hu hd (by simpa using hi)
  simpa using this
theorem four_last (w : World) (A B C D : Obj) : ((((w.alloc A).alloc B).alloc C).alloc D).heap[w.heap.size + 1 + 1 + 1]? = some D := by
  have := heap_alloc_new (((w.alloc A).alloc B).alloc C) D
  simpa using this
theorem five_last (w : World) (A B C D E : Obj) : (((((w.alloc A).alloc B).alloc C).alloc D).alloc E).heap[w.heap.size + 1 + 1 + 1 + 1]? = some E := by
  have := heap_alloc_new ((((w.alloc A).alloc B).alloc C).alloc D) E
  simpa using this
theorem five_fourth (w : World) (A B C D E : Obj) : (((((w.alloc A).alloc B).alloc C).alloc D).alloc E).heap[w.heap.size + 1 + 1 + 1]? = some D := (heap_alloc_old _ _ (by simp)).trans (four_last _ _ _ _ _)
theorem five_third (w : World) (A B C D E : Obj) : (((((w.alloc A).alloc B).alloc C).alloc D).alloc E).heap[w.heap.size + 1 + 1]? = some C := (heap_alloc_old _ _ (by simp)).trans ((heap_alloc_old _ _ (by simp)).trans (three_last _ _ _ _))
theorem five_second (w : World) (A B C D E : Obj) : (((((w.alloc A).alloc B).alloc C).alloc D).alloc E).heap[w.heap.size + 1]? = some B := (heap_alloc_old _ _ (by simp)).trans ((heap_alloc_old _ _ (by simp)).trans ((heap_alloc_old _ _ (by simp)).trans (two_last _ _ _)))
theorem five_first (w : World) (A B C D E : Obj) : (((((w.alloc A).alloc B).alloc C).alloc D).alloc E).heap[w.heap.size]? = some A := (heap_alloc_old _ _ (by simp; omega)).trans (four_first _ _ _ _ _)
theorem wpList_load_atw {P : Program} {ops : Array Oper} {rest : List Oper} {op : Oper} {a : Act} {w : World} {Q : Exit → Act → World → Prop} (hw : Region.wanted op (yielded ops a.tmps) = true) (ty : TypeId) (x : Operand) (ho : op.op = .load ty x)
    (g o n : Nat) (hx : a.eval x = .pointer (some ⟨g, o, none⟩)) (cs L : Array Value) (t : TypeId) (d : TypeDesc) (hg : w.heap[g]? = some (.cells cs t (0, 0)))
    (hu : P.underlying ty = some d) (hd : d.isRow = true) (hL : cs.extract o (o + n) = L) (hn : L.size = n) (hi : (P.info? ty).map (·.size) = some n)
    (h : wpList P ops Q rest (a.put op.dst (.agg L)) w) : wpList P ops Q (op :: rest) a w := by
  subst hL
  have hr := World.rangeAt_of_block hg o n
  refine BigFrame.wpList_want hw fun K hK => ?_
  refine wp_load_mid ty x ho g o hx (cs.extract o (o + n)).toList d hr hu hd (by rw [Array.length_toList, hn]; exact hi) ?_
  rw [Array.toArray_toList]
  exact hK _ _ h
theorem wpList_build_want {P : Program} {ops : Array Oper} {rest : List Oper} {op : Oper} {a : Act} {w : World} {Q : Exit → Act → World → Prop} (hw : Region.wanted op (yielded ops a.tmps) = true) (t : TypeId) (parts : Array (Nat × Operand)) (ho : op.op = .build t parts)
    (cells : Array Value) (hc : P.built t (parts.map fun (i, x) => (i, a.eval x)).toList = some cells)
    (h : wpList P ops Q rest (a.put op.dst (.agg cells)) w) : wpList P ops Q (op :: rest) a w := by
  refine BigFrame.wpList_want hw fun K hK => ?_
  unfold Oper.wp execOp
  simp only [ho, Sem.run_bind, run_build w t _ cells hc, Result.andThen_ok]
  exact hK _ _ h
theorem size36 : (Try.prog.info? 34).map (·.size) = some 36 := by kernel_rfl
theorem putC_get : ∀ (vs : List Value) (cs : Array Value) (o j : Nat), o + vs.length ≤ cs.size → (putC cs o vs)[j]? = if j < o then cs[j]? else if j < o + vs.length then vs[j - o]? else cs[j]?
  | [], cs, o, j, _ => by
    rw [putC]; simp only [List.length_nil, Nat.add_zero]
    split <;> rfl
  | v :: r, cs, o, j, h => by
    simp only [List.length_cons] at h
    rw [putC, putC_get r _ (o + 1) j (by rw [Array.size_setIfInBounds]; omega)]
    by_cases h1 : j < o
    · rw [if_pos (by omega), if_pos h1, Array.getElem?_setIfInBounds_ne (by omega)]
    · by_cases h2 : j = o
      · subst h2
        rw [if_pos (by omega), if_neg (by omega), if_pos (by simp only [List.length_cons]; omega), Array.getElem?_setIfInBounds_self_of_lt (by omega)]
        simp
      · rw [if_neg (by omega), if_neg h1]
        by_cases h3 : j < o + 1 + r.length
        · rw [if_pos h3, if_pos (by simp only [List.length_cons]; omega), show j - o = (j - (o + 1)) + 1 by omega, List.getElem?_cons_succ]
        · rw [if_neg h3, if_neg (by simp only [List.length_cons]; omega), Array.getElem?_setIfInBounds_ne (by omega)]
theorem putC_one : ∀ (vs : List Value) (cs : Array Value) (o : Nat), cs.all (·.oneCell') = true → vs.all (·.oneCell') = true → (putC cs o vs).all (·.oneCell') = true
  | [], _, _, h, _ => h
  | v :: r, cs, o, h, hv => by
    simp only [List.all_cons, Bool.and_eq_true] at hv
    rw [putC]; exact putC_one r _ _ (set_one h hv.1) hv.2
theorem list_cons {α : Type} {l : List α} {n : Nat} (h : l.length = n + 1) : ∃ a r, l = a :: r ∧ r.length = n := by
  cases l with
  | nil => simp at h
  | cons a r => exact ⟨a, r, rfl, by simpa using h⟩
end Go.Proofs.Ytpiokeidcnbmbaa.Ca

namespace Go.Proofs.Ytpiokeidcnbmbaa.Ca
open Go.RowKit
structure PSt (ps : Array Value) : Prop where
  size : ps.size = 36
  one : ps.all (·.oneCell') = true
  u64 : ∀ i ∈ [0, 1, 7, 9], ∃ x, ps[i]? = some (.int .u64 x) ∧ 0 ≤ x ∧ x ≤ 18446744073709551615
  i64 : ∀ i ∈ [3, 4, 6, 12, 13, 14, 15, 16, 20, 21, 22, 24, 25, 29, 30, 31], ∃ x, ps[i]? = some (.int .i64 x) ∧ -9223372036854775808 ≤ x ∧ x ≤ 9223372036854775807
  u32 : ∀ i ∈ [8, 10, 17, 18, 23, 27, 28], ∃ x, ps[i]? = some (.int .u32 x) ∧ 0 ≤ x ∧ x ≤ 4294967295
  bool : ∀ i ∈ [2, 5, 11, 26], ∃ b, ps[i]? = some (.bool b)
  str : ∀ i ∈ [19, 32, 33, 34, 35], ∃ s, ps[i]? = some (.string s)
theorem thirtysix {A : Array Value} (h : A.size = 36) : ∃ a0 a1 a2 a3 a4 a5 a6 a7 a8 a9 a10 a11 a12 a13 a14 a15 a16 a17 a18 a19 a20 a21 a22 a23 a24 a25 a26 a27 a28 a29 a30 a31 a32 a33 a34 a35, A = #[a0, a1, a2, a3, a4, a5, a6, a7, a8, a9, a10, a11, a12, a13, a14, a15, a16, a17, a18, a19, a20, a21, a22, a23, a24, a25, a26, a27, a28, a29, a30, a31, a32, a33, a34, a35] := by
  obtain ⟨l⟩ := A
  have hl : l.length = 36 := by simpa using h
  obtain ⟨a0, l0, rfl, k0⟩ := list_cons hl
  obtain ⟨a1, l1, rfl, k1⟩ := list_cons k0
  obtain ⟨a2, l2, rfl, k2⟩ := list_cons k1
  obtain ⟨a3, l3, rfl, k3⟩ := list_cons k2
  obtain ⟨a4, l4, rfl, k4⟩ := list_cons k3
  obtain ⟨a5, l5, rfl, k5⟩ := list_cons k4
  obtain ⟨a6, l6, rfl, k6⟩ := list_cons k5
  obtain ⟨a7, l7, rfl, k7⟩ := list_cons k6
  obtain ⟨a8, l8, rfl, k8⟩ := list_cons k7
  obtain ⟨a9, l9, rfl, k9⟩ := list_cons k8
  obtain ⟨a10, l10, rfl, k10⟩ := list_cons k9
  obtain ⟨a11, l11, rfl, k11⟩ := list_cons k10
  obtain ⟨a12, l12, rfl, k12⟩ := list_cons k11
  obtain ⟨a13, l13, rfl, k13⟩ := list_cons k12
  obtain ⟨a14, l14, rfl, k14⟩ := list_cons k13
  obtain ⟨a15, l15, rfl, k15⟩ := list_cons k14
  obtain ⟨a16, l16, rfl, k16⟩ := list_cons k15
  obtain ⟨a17, l17, rfl, k17⟩ := list_cons k16
  obtain ⟨a18, l18, rfl, k18⟩ := list_cons k17
  obtain ⟨a19, l19, rfl, k19⟩ := list_cons k18
  obtain ⟨a20, l20, rfl, k20⟩ := list_cons k19
  obtain ⟨a21, l21, rfl, k21⟩ := list_cons k20
  obtain ⟨a22, l22, rfl, k22⟩ := list_cons k21
  obtain ⟨a23, l23, rfl, k23⟩ := list_cons k22
  obtain ⟨a24, l24, rfl, k24⟩ := list_cons k23
  obtain ⟨a25, l25, rfl, k25⟩ := list_cons k24
  obtain ⟨a26, l26, rfl, k26⟩ := list_cons k25
  obtain ⟨a27, l27, rfl, k27⟩ := list_cons k26
  obtain ⟨a28, l28, rfl, k28⟩ := list_cons k27
  obtain ⟨a29, l29, rfl, k29⟩ := list_cons k28
  obtain ⟨a30, l30, rfl, k30⟩ := list_cons k29
  obtain ⟨a31, l31, rfl, k31⟩ := list_cons k30
  obtain ⟨a32, l32, rfl, k32⟩ := list_cons k31
  obtain ⟨a33, l33, rfl, k33⟩ := list_cons k32
  obtain ⟨a34, l34, rfl, k34⟩ := list_cons k33
  obtain ⟨a35, l35, rfl, k35⟩ := list_cons k34
  obtain rfl := List.length_eq_zero_iff.1 k35
  exact ⟨a0, a1, a2, a3, a4, a5, a6, a7, a8, a9, a10, a11, a12, a13, a14, a15, a16, a17, a18, a19, a20, a21, a22, a23, a24, a25, a26, a27, a28, a29, a30, a31, a32, a33, a34, a35, rfl⟩
theorem step_store_at {P : Program} {ops : Array Oper} {op : Oper} {a : Act} {w : World} {K : Act → World → Prop} {Q : Exit → Act → World → Prop} {E : Prop} (hgd : op.guard = none) (ty : TypeId) (x y : Operand) (ho : op.op = .store ty x y)
    (g o : Nat) (old c' : Array Value) (t : TypeId) (hx : a.eval x = .pointer (some ⟨g, o, none⟩)) (hy : a.eval y = .agg c') (hg : w.heap[g]? = some (.cells old t (0, 0)))
    (hi : (P.info? ty).map (·.size) = some c'.size) (hs : o + c'.size ≤ old.size) (h1 : c'.all (·.oneCell') = true)
    (h : ∀ w', w'.heap[g]? = some (.cells (putC old o c'.toList) t (0, 0)) → (∀ k, k ≠ g → w'.heap[k]? = w.heap[k]?) → w'.heap.size = w.heap.size → Below g w w' → K (a.put op.dst undef) w') :
    if Region.wanted op (yielded ops a.tmps) = true then Oper.wp P op a w K Q else E := by
  have hw : Region.wanted op (yielded ops a.tmps) = true := by simp [Region.wanted, hgd]
  rw [if_pos hw]
  obtain ⟨e1, e2, e3⟩ := heap_setCells c'.toList w g o
  exact wp_store_mid ty x y ho g o c' hx hy (there_row hg o _ hs) hi h1 (h _ (row_setCells _ hg o) e2 e1 e3)
theorem yields_at {ops : Array Oper} {S : World → Prop} {op : Oper} {a : Act} (hw : Region.wanted op (yielded ops a.tmps) = true) (ty : TypeId) (x : Operand) (ho : op.op = .load ty x)
    (b o n : Nat) (hx : a.eval x = .pointer (some ⟨b, o, none⟩)) (t : TypeId) (cs c : Array Value) (d : TypeDesc) (hS : ∀ w, S w → w.heap[b]? = some (.cells cs t (0, 0))) (hc : cs.extract o (o + n) = c) (hn : c.size = n)
    (hu : Try.prog.underlying ty = some d) (hd : d.isRow = true) (hi : (Try.prog.info? ty).map (·.size) = some n) : YieldsIf Try.prog ops S op (.agg c) a := by
  have := yieldsIf_load_mid (P := Try.prog) (ops := ops) (S := S) (op := op) (a := a) hw ty x ho b o hx c.toList d (fun w hw' => by
    have h := World.rangeAt_of_block (hS w hw') o n
    rw [hc] at h
    exact h) hu hd (by rw [Array.length_toList, hn]; exact hi)
  simpa using this
set_option maxRecDepth 20000 in
set_option maxHeartbeats 4000000 in
theorem eq_packet {ps : Array Value} (h : PSt ps) (W : World) : (binOp .eql 34 (.agg ps) (.agg ps)).run Try.prog W = .ok (.bool true) W := by
  obtain ⟨c0v, c1v, c2v, c3v, c4v, c5v, c6v, c7v, c8v, c9v, c10v, c11v, c12v, c13v, c14v, c15v, c16v, c17v, c18v, c19v, c20v, c21v, c22v, c23v, c24v, c25v, c26v, c27v, c28v, c29v, c30v, c31v, c32v, c33v, c34v, c35v, rfl⟩ := thirtysix h.size
  obtain ⟨x0, hx0, _⟩ := h.u64 0 (by decide)
  obtain ⟨x1, hx1, _⟩ := h.u64 1 (by decide)
  obtain ⟨x2, hx2⟩ := h.bool 2 (by decide)
  obtain ⟨x3, hx3, _⟩ := h.i64 3 (by decide)
  obtain ⟨x4, hx4, _⟩ := h.i64 4 (by decide)
  obtain ⟨x5, hx5⟩ := h.bool 5 (by decide)
  obtain ⟨x6, hx6, _⟩ := h.i64 6 (by decide)
  obtain ⟨x7, hx7, _⟩ := h.u64 7 (by decide)
  obtain ⟨x8, hx8, _⟩ := h.u32 8 (by decide)
  obtain ⟨x9, hx9, _⟩ := h.u64 9 (by decide)
  obtain ⟨x10, hx10, _⟩ := h.u32 10 (by decide)
  obtain ⟨x11, hx11⟩ := h.bool 11 (by decide)
  obtain ⟨x12, hx12, _⟩ := h.i64 12 (by decide)
  obtain ⟨x13, hx13, _⟩ := h.i64 13 (by decide)
  obtain ⟨x14, hx14, _⟩ := h.i64 14 (by decide)
  obtain ⟨x15, hx15, _⟩ := h.i64 15 (by decide)
  obtain ⟨x16, hx16, _⟩ := h.i64 16 (by decide)
  obtain ⟨x17, hx17, _⟩ := h.u32 17 (by decide)
  obtain ⟨x18, hx18, _⟩ := h.u32 18 (by decide)
  obtain ⟨x19, hx19⟩ := h.str 19 (by decide)
  obtain ⟨x20, hx20, _⟩ := h.i64 20 (by decide)
  obtain ⟨x21, hx21, _⟩ := h.i64 21 (by decide)
  obtain ⟨x22, hx22, _⟩ := h.i64 22 (by decide)
  obtain ⟨x23, hx23, _⟩ := h.u32 23 (by decide)
  obtain ⟨x24, hx24, _⟩ := h.i64 24 (by decide)
  obtain ⟨x25, hx25, _⟩ := h.i64 25 (by decide)
  obtain ⟨x26, hx26⟩ := h.bool 26 (by decide)
  obtain ⟨x27, hx27, _⟩ := h.u32 27 (by decide)
  obtain ⟨x28, hx28, _⟩ := h.u32 28 (by decide)
  obtain ⟨x29, hx29, _⟩ := h.i64 29 (by decide)
  obtain ⟨x30, hx30, _⟩ := h.i64 30 (by decide)
  obtain ⟨x31, hx31, _⟩ := h.i64 31 (by decide)
  obtain ⟨x32, hx32⟩ := h.str 32 (by decide)
  obtain ⟨x33, hx33⟩ := h.str 33 (by decide)
  obtain ⟨x34, hx34⟩ := h.str 34 (by decide)
  obtain ⟨x35, hx35⟩ := h.str 35 (by decide)
  simp only [List.getElem?_toArray, List.getElem?_cons_zero, List.getElem?_cons_succ, Option.some.injEq] at hx0 hx1 hx2 hx3 hx4 hx5 hx6 hx7 hx8 hx9 hx10 hx11 hx12 hx13 hx14 hx15 hx16 hx17 hx18 hx19 hx20 hx21 hx22 hx23 hx24 hx25 hx26 hx27 hx28 hx29 hx30 hx31 hx32 hx33 hx34 hx35
  subst hx0 hx1 hx2 hx3 hx4 hx5 hx6 hx7 hx8 hx9 hx10 hx11 hx12 hx13 hx14 hx15 hx16 hx17 hx18 hx19 hx20 hx21 hx22 hx23 hx24 hx25 hx26 hx27 hx28 hx29 hx30 hx31 hx32 hx33 hx34 hx35
  clear h
  simp [go_sem]
set_option maxRecDepth 20000 in
set_option maxHeartbeats 4000000 in
theorem neq_packet {ps : Array Value} (h : PSt ps) (W : World) : (binOp .neq 34 (.agg ps) (.agg ps)).run Try.prog W = .ok (.bool false) W := by
  obtain ⟨c0v, c1v, c2v, c3v, c4v, c5v, c6v, c7v, c8v, c9v, c10v, c11v, c12v, c13v, c14v, c15v, c16v, c17v, c18v, c19v, c20v, c21v, c22v, c23v, c24v, c25v, c26v, c27v, c28v, c29v, c30v, c31v, c32v, c33v, c34v, c35v, rfl⟩ := thirtysix h.size
  obtain ⟨x0, hx0, _⟩ := h.u64 0 (by decide)
  obtain ⟨x1, hx1, _⟩ := h.u64 1 (by decide)
  obtain ⟨x2, hx2⟩ := h.bool 2 (by decide)
  obtain ⟨x3, hx3, _⟩ := h.i64 3 (by decide)
  obtain ⟨x4, hx4, _⟩ := h.i64 4 (by decide)
  obtain ⟨x5, hx5⟩ := h.bool 5 (by decide)
  obtain ⟨x6, hx6, _⟩ := h.i64 6 (by decide)
  obtain ⟨x7, hx7, _⟩ := h.u64 7 (by decide)
  obtain ⟨x8, hx8, _⟩ := h.u32 8 (by decide)
  obtain ⟨x9, hx9, _⟩ := h.u64 9 (by decide)
  obtain ⟨x10, hx10, _⟩ := h.u32 10 (by decide)
  obtain ⟨x11, hx11⟩ := h.bool 11 (by decide)
  obtain ⟨x12, hx12, _⟩ := h.i64 12 (by decide)
  obtain ⟨x13, hx13, _⟩ := h.i64 13 (by decide)
  obtain ⟨x14, hx14, _⟩ := h.i64 14 (by decide)
  obtain ⟨x15, hx15, _⟩ := h.i64 15 (by decide)
  obtain ⟨x16, hx16, _⟩ := h.i64 16 (by decide)
  obtain ⟨x17, hx17, _⟩ := h.u32 17 (by decide)
  obtain ⟨x18, hx18, _⟩ := h.u32 18 (by decide)
  obtain ⟨x19, hx19⟩ := h.str 19 (by decide)
  obtain ⟨x20, hx20, _⟩ := h.i64 20 (by decide)
  obtain ⟨x21, hx21, _⟩ := h.i64 21 (by decide)
  obtain ⟨x22, hx22, _⟩ := h.i64 22 (by decide)
  obtain ⟨x23, hx23, _⟩ := h.u32 23 (by decide)
  obtain ⟨x24, hx24, _⟩ := h.i64 24 (by decide)
  obtain ⟨x25, hx25, _⟩ := h.i64 25 (by decide)
  obtain ⟨x26, hx26⟩ := h.bool 26 (by decide)
  obtain ⟨x27, hx27, _⟩ := h.u32 27 (by decide)
  obtain ⟨x28, hx28, _⟩ := h.u32 28 (by decide)
  obtain ⟨x29, hx29, _⟩ := h.i64 29 (by decide)
  obtain ⟨x30, hx30, _⟩ := h.i64 30 (by decide)
  obtain ⟨x31, hx31, _⟩ := h.i64 31 (by decide)
  obtain ⟨x32, hx32⟩ := h.str 32 (by decide)
  obtain ⟨x33, hx33⟩ := h.str 33 (by decide)
  obtain ⟨x34, hx34⟩ := h.str 34 (by decide)
  obtain ⟨x35, hx35⟩ := h.str 35 (by decide)
  simp only [List.getElem?_toArray, List.getElem?_cons_zero, List.getElem?_cons_succ, Option.some.injEq] at hx0 hx1 hx2 hx3 hx4 hx5 hx6 hx7 hx8 hx9 hx10 hx11 hx12 hx13 hx14 hx15 hx16 hx17 hx18 hx19 hx20 hx21 hx22 hx23 hx24 hx25 hx26 hx27 hx28 hx29 hx30 hx31 hx32 hx33 hx34 hx35
  subst hx0 hx1 hx2 hx3 hx4 hx5 hx6 hx7 hx8 hx9 hx10 hx11 hx12 hx13 hx14 hx15 hx16 hx17 hx18 hx19 hx20 hx21 hx22 hx23 hx24 hx25 hx26 hx27 hx28 hx29 hx30 hx31 hx32 hx33 hx34 hx35
  clear h
  simp [go_sem]
end Go.Proofs.Ytpiokeidcnbmbaa.Ca

namespace Go.Proofs.Ytpiokeidcnbmbaa
open Go.RowKit
set_option maxRecDepth 20000
theorem one36 : zeroPk.all (·.oneCell') = true := by decide +kernel
theorem info36 {c : Array Value} (h : c.size = 36) : (Try.prog.info? 34).map (·.size) = some c.size := by rw [h]; exact Ca.size36
theorem results_pk {fn : Func} {p u : Tmp} (h : fn.results = #[.cell p 34, .tmp u]) (tmps : Array Value) (w : World) (g : Nat) (cs : Array Value)
    (hp : tmps.getD p undef = .pointer (some ⟨g, 0, none⟩)) (hg : w.heap[g]? = some (.cells cs 34 (0, 0))) (hs : cs.size = 36) :
    (results fn tmps).run Try.prog w = .ok (.tuple #[.agg cs, tmps.getD u undef]) w := by
  rw [results_cell_tmp h, hp]
  simp only [asAddr, Sem.run_pure, Result.andThen_ok, run_loadVar_row w g 34 34 cs (0, 0) _ hg Try.underlying34 rfl (info36 hs)]
theorem zsize : zeroPk.size = 36 := rfl
end Go.Proofs.Ytpiokeidcnbmbaa
