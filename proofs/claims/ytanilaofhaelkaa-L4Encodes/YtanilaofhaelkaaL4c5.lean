/- The document's Check of every packet. Conditions: numbers of their kinds, texts of at most 2^47 bytes. -/
import Derived.Test.YtanilaofhaelkaaL4c0
import Derived.Test.YtanilaofhaelkaaL4c1
import Derived.Test.YtanilaofhaelkaaL4c2
import Derived.Test.YtanilaofhaelkaaL4c3
import Derived.Test.YtanilaofhaelkaaL4c4
import Derived.Test.YtanilaofhaelkaaL4n
namespace Go.Proofs.Ytanilaofhaelkaa
open Go.RowKit

theorem rOk_ok (k ty co re sp dp : Int) (ns : Bool) (sq ak fl wi ur : Int) (os ds : List Int) (size : Int) (ho : ownOk k ty co re sp dp ns sq ak fl wi ur (strOfNums os) = true) (hs : size = fixV k + os.length) :
    rOk (toB ty 255) (toB co 255) (toB sp 65535) (toB dp 65535) (toB wi 65535) (toB ur 65535) (toB fl 4095) os.length ds.length size = l4Ok k ty co re sp dp ns sq ak fl wi ur (strOfNums os) (strOfNums ds) := by
  subst hs
  unfold l4Ok rOk numsOk
  rw [ho, strOfNums_size, strOfNums_size]
  have e8 : ∀ v, fitN 8 v = toB v 255 := fun v => rfl
  have e12 : ∀ v, fitN 12 v = toB v 4095 := fun v => rfl
  have e16 : ∀ v, fitN 16 v = toB v 65535 := fun v => rfl
  have hz : decide (65515 - (fixV k + (os.length : Int)) < (ds.length : Int)) = decide (65515 < fixV k + (os.length : Int) + ds.length) := by
    rw [Bool.eq_iff_iff]; simp; omega
  have hm : ((os.length : Int) % 4 == 0) = !((os.length : Int) % 4 != 0) := by simp [bne]
  rw [e8, e8, e12, e16, e16, e16, e16, hz, hm]
  generalize toB ty 255 = b0
  generalize toB co 255 = b1
  generalize toB sp 65535 = b2
  generalize toB dp 65535 = b3
  generalize toB wi 65535 = b4
  generalize toB ur 65535 = b5
  generalize toB fl 4095 = b6
  generalize decide (40 < os.length) = b7
  generalize ((os.length : Int) % 4 != 0) = b8
  generalize decide (65515 < fixV k + (os.length : Int) + ds.length) = b9
  revert b0 b1 b2 b3 b4 b5 b6 b7 b8 b9
  decide +kernel
set_option maxHeartbeats 2000000 in
theorem rcheck_none (k : Int) (ty co re sp dp : Int) (ns : Bool) (sq ak fl wi ur : Int) (os ds : List Int) (w : World) (e0 : (k == 0) = false) (e1 : (k == 1) = false) (e2 : (k == 2) = false) (e3 : (k == 3) = false) :
    Calls Try.prog 13 #[.agg #[.int .i64 k, .int .i64 ty, .int .i64 co, .int .u32 re, .int .i64 sp, .int .i64 dp, .bool ns, .int .u32 sq, .int .u32 ak, .int .i64 fl, .int .i64 wi, .int .i64 ur, .string (strOfNums os), .string (strOfNums ds)]] w fun e w' => e = .returned (.int .i64 1) ∧ Below w.heap.size w w' := by
  go_enter Try.func13, Try.ntmps13
  go_wp2
  go_ret
  exact ⟨rfl, below2 w _ _⟩
theorem rl4check_any (x : L4R) (hf : x.Fine) (hos : x.os.length ≤ 140737488355328) (w : World) :
    Calls Try.prog 13 #[x.v] w fun e w' => e = .returned (.int .i64 (if x.ok = true then 0 else 1)) ∧ Below w.heap.size w w' := by
  obtain ⟨k, ty, co, re, sp, dp, ns, sq, ak, fl, wi, ur, os, ds⟩ := x
  have hd : ds.length ≤ 140737488355328 := hf.room
  replace hos : os.length ≤ 140737488355328 := hos
  by_cases e0 : k = 0
  · subst e0
    have hq : ∀ W, (binOp .neq 25 (.agg #[.int .i64 0, .int .i64 ty, .int .i64 co, .int .u32 re, .int .i64 sp, .int .i64 dp, .bool ns, .int .u32 sq, .int .u32 ak, .int .i64 fl, .int .i64 wi, .int .i64 ur, .string (strOfNums os), .string (strOfNums ds)]) (.agg #[.int .i64 0, .int .i64 0, .int .i64 0, .int .u32 0, .int .i64 0, .int .i64 0, .bool false, .int .u32 0, .int .u32 0, .int .i64 0, .int .i64 0, .int .i64 0, .string ⟨#[]⟩, .string (strOfNums ds)])).run Try.prog W = .ok (.bool (!(ownOk 0 ty co re sp dp ns sq ak fl wi ur (strOfNums os)))) W := by
      intro W
      rw [neq14]
      congr 3
      simp [ownOk]
    cases ho : ownOk 0 ty co re sp dp ns sq ak fl wi ur (strOfNums os)
    · rw [ho] at hq
      have hn : (L4R.mk 0 ty co re sp dp ns sq ak fl wi ur os ds).ok = false := by
        unfold L4R.ok l4Ok
        simp only [ho, Bool.false_and]
      rw [hn]
      exact rcheck0_a ty co re sp dp ns sq ak fl wi ur os ds w hd hos hq
    · rw [ho] at hq
      have hs : 0 = fixV 0 + (os.length : Int) := by
        have : os = [] := by unfold ownOk at ho; simp at ho; exact str_nil (by simp [ho])
        rw [this]; rfl
      have hr := rOk_ok 0 ty co re sp dp ns sq ak fl wi ur os ds 0 ho hs
      have := rcheck0_b ty co re sp dp ns sq ak fl wi ur os ds w hd hos hq
      rw [hr] at this
      exact this
  by_cases e1 : k = 1
  · subst e1
    have hq : ∀ W, (binOp .neq 25 (.agg #[.int .i64 1, .int .i64 ty, .int .i64 co, .int .u32 re, .int .i64 sp, .int .i64 dp, .bool ns, .int .u32 sq, .int .u32 ak, .int .i64 fl, .int .i64 wi, .int .i64 ur, .string (strOfNums os), .string (strOfNums ds)]) (.agg #[.int .i64 1, .int .i64 ty, .int .i64 co, .int .u32 re, .int .i64 0, .int .i64 0, .bool false, .int .u32 0, .int .u32 0, .int .i64 0, .int .i64 0, .int .i64 0, .string ⟨#[]⟩, .string (strOfNums ds)])).run Try.prog W = .ok (.bool (!(ownOk 1 ty co re sp dp ns sq ak fl wi ur (strOfNums os)))) W := by
      intro W
      rw [neq14]
      congr 3
      simp [ownOk]
    cases ho : ownOk 1 ty co re sp dp ns sq ak fl wi ur (strOfNums os)
    · rw [ho] at hq
      have hn : (L4R.mk 1 ty co re sp dp ns sq ak fl wi ur os ds).ok = false := by
        unfold L4R.ok l4Ok
        simp only [ho, Bool.false_and]
      rw [hn]
      exact rcheck1_a ty co re sp dp ns sq ak fl wi ur os ds w hd hos hq
    · rw [ho] at hq
      have hs : 8 = fixV 1 + (os.length : Int) := by
        have : os = [] := by unfold ownOk at ho; simp at ho; exact str_nil (by simp [ho])
        rw [this]; rfl
      have hr := rOk_ok 1 ty co re sp dp ns sq ak fl wi ur os ds 8 ho hs
      have := rcheck1_b ty co re sp dp ns sq ak fl wi ur os ds w hd hos hq
      rw [hr] at this
      exact this
  by_cases e2 : k = 2
  · subst e2
    have hq : ∀ W, (binOp .neq 25 (.agg #[.int .i64 2, .int .i64 ty, .int .i64 co, .int .u32 re, .int .i64 sp, .int .i64 dp, .bool ns, .int .u32 sq, .int .u32 ak, .int .i64 fl, .int .i64 wi, .int .i64 ur, .string (strOfNums os), .string (strOfNums ds)]) (.agg #[.int .i64 2, .int .i64 0, .int .i64 0, .int .u32 0, .int .i64 sp, .int .i64 dp, .bool ns, .int .u32 0, .int .u32 0, .int .i64 0, .int .i64 0, .int .i64 0, .string ⟨#[]⟩, .string (strOfNums ds)])).run Try.prog W = .ok (.bool (!(ownOk 2 ty co re sp dp ns sq ak fl wi ur (strOfNums os)))) W := by
      intro W
      rw [neq14]
      congr 3
      simp [ownOk]
    cases ho : ownOk 2 ty co re sp dp ns sq ak fl wi ur (strOfNums os)
    · rw [ho] at hq
      have hn : (L4R.mk 2 ty co re sp dp ns sq ak fl wi ur os ds).ok = false := by
        unfold L4R.ok l4Ok
        simp only [ho, Bool.false_and]
      rw [hn]
      exact rcheck2_a ty co re sp dp ns sq ak fl wi ur os ds w hd hos hq
    · rw [ho] at hq
      have hs : 8 = fixV 2 + (os.length : Int) := by
        have : os = [] := by unfold ownOk at ho; simp at ho; exact str_nil (by simp [ho])
        rw [this]; rfl
      have hr := rOk_ok 2 ty co re sp dp ns sq ak fl wi ur os ds 8 ho hs
      have := rcheck2_b ty co re sp dp ns sq ak fl wi ur os ds w hd hos hq
      rw [hr] at this
      exact this
  by_cases e3 : k = 3
  · subst e3
    have hq : ∀ W, (binOp .neq 25 (.agg #[.int .i64 3, .int .i64 ty, .int .i64 co, .int .u32 re, .int .i64 sp, .int .i64 dp, .bool ns, .int .u32 sq, .int .u32 ak, .int .i64 fl, .int .i64 wi, .int .i64 ur, .string (strOfNums os), .string (strOfNums ds)]) (.agg #[.int .i64 3, .int .i64 0, .int .i64 0, .int .u32 0, .int .i64 sp, .int .i64 dp, .bool false, .int .u32 sq, .int .u32 ak, .int .i64 fl, .int .i64 wi, .int .i64 ur, .string (strOfNums os), .string (strOfNums ds)])).run Try.prog W = .ok (.bool (!(ownOk 3 ty co re sp dp ns sq ak fl wi ur (strOfNums os)))) W := by
      intro W
      rw [neq14]
      congr 3
      simp [ownOk]
    cases ho : ownOk 3 ty co re sp dp ns sq ak fl wi ur (strOfNums os)
    · rw [ho] at hq
      have hn : (L4R.mk 3 ty co re sp dp ns sq ak fl wi ur os ds).ok = false := by
        unfold L4R.ok l4Ok
        simp only [ho, Bool.false_and]
      rw [hn]
      exact rcheck3_a ty co re sp dp ns sq ak fl wi ur os ds w hd hos hq
    · rw [ho] at hq
      have hs : (20 + (os.length : Int)) = fixV 3 + (os.length : Int) := by
        rw [show fixV 3 = 20 from rfl]
      have hr := rOk_ok 3 ty co re sp dp ns sq ak fl wi ur os ds (20 + (os.length : Int)) ho hs
      have := rcheck3_b ty co re sp dp ns sq ak fl wi ur os ds w hd hos hq
      rw [hr] at this
      exact this
  have hn : (L4R.mk k ty co re sp dp ns sq ak fl wi ur os ds).ok = false := by
    simp [L4R.ok, l4Ok, ownOk, e0, e1, e2, e3]
  rw [hn]
  exact rcheck_none k ty co re sp dp ns sq ak fl wi ur os ds w (by simp [e0]) (by simp [e1]) (by simp [e2]) (by simp [e3])
end Go.Proofs.Ytanilaofhaelkaa
