/- What sizeOf and numbersFit of package l4 answer. Conditions: options and data of at most 2^47 bytes. -/
import Derived.Test.YtgonckbdkgiddaaL4b
namespace Go.Proofs.Ytgonckbdkgiddaa
open Go.RowKit

/-- A packet of layer 4. -/
def l4V (k ty co re sp dp : Int) (ns : Bool) (sq ak fl wi ur : Int) (os ds : List Int) : Value := .agg #[.int .i64 k, .int .i64 ty, .int .i64 co, .int .u32 re, .int .i64 sp, .int .i64 dp, .bool ns, .int .u32 sq, .int .u32 ak, .int .i64 fl, .int .i64 wi, .int .i64 ur, .string (strOfNums os), .string (strOfNums ds)]

theorem fixV_bd (k : Int) : 0 ≤ fixV k ∧ fixV k ≤ 20 := by
  unfold fixV
  repeat' split
  all_goals omega

theorem sizeOf_any (k ty co re sp dp : Int) (ns : Bool) (sq ak fl wi ur : Int) (os ds : List Int) (w : World) (ho : os.length ≤ 140737488355328) (hd : ds.length ≤ 140737488355328) :
    Calls Try.prog 39 #[l4V k ty co re sp dp ns sq ak fl wi ur os ds] w fun e w' => e = .returned (.int .i64 (fixV k + os.length + ds.length)) ∧ Below w.heap.size w w' := by
  have hs1 := strOfNums_size os
  have hs2 := strOfNums_size ds
  have hb := fixV_bd k
  have h1 : (os.length : Int) ≤ 140737488355328 := by omega
  have h2 : (ds.length : Int) ≤ 140737488355328 := by omega
  unfold l4V
  go_enter Try.func39, Try.ntmps39
  go_wp2
  go_quiet (exact Calls.quiet_of_same (fixed_any _ _))
  go_wp2
  go_ret
  exact ⟨rfl, below_drewN (below1 w _) _⟩

/-- Do the numbers of a packet fit? -/
def numsOk (ty co sp dp fl wi ur : Int) : Bool := fitN 8 ty && (fitN 8 co && (fitN 12 fl && (fitN 16 sp && (fitN 16 dp && (fitN 16 wi && fitN 16 ur)))))

theorem nums_any (k ty co re sp dp : Int) (ns : Bool) (sq ak fl wi ur : Int) (os ds : List Int) (w : World) :
    Calls Try.prog 63 #[l4V k ty co re sp dp ns sq ak fl wi ur os ds] w fun e w' => e = .returned (.bool (numsOk ty co sp dp fl wi ur)) ∧ Below w.heap.size w w' := by
  unfold l4V numsOk
  cases c0 : fitN 8 ty
  · simp only [Bool.false_and]
    go_enter Try.func63, Try.ntmps63
    go_wp2_with (go_at_call 34; refine (fitN_any _ _ (by omega) _).mono ?_; rintro e w' ⟨rfl, rfl⟩)
    go_ret
    exact ⟨rfl, below1 w _⟩
  cases c1 : fitN 8 co
  · simp only [Bool.false_and, Bool.true_and]
    go_enter Try.func63, Try.ntmps63
    go_wp2_with (go_at_call 34; refine (fitN_any _ _ (by omega) _).mono ?_; rintro e w' ⟨rfl, rfl⟩)
    go_ret
    exact ⟨rfl, below1 w _⟩
  cases c2 : fitN 12 fl
  · simp only [Bool.false_and, Bool.true_and]
    go_enter Try.func63, Try.ntmps63
    go_wp2_with (go_at_call 34; refine (fitN_any _ _ (by omega) _).mono ?_; rintro e w' ⟨rfl, rfl⟩)
    go_ret
    exact ⟨rfl, below1 w _⟩
  cases c3 : fitN 16 sp
  · simp only [Bool.false_and, Bool.true_and]
    go_enter Try.func63, Try.ntmps63
    go_wp2_with (go_at_call 34; refine (fitN_any _ _ (by omega) _).mono ?_; rintro e w' ⟨rfl, rfl⟩)
    go_ret
    exact ⟨rfl, below1 w _⟩
  cases c4 : fitN 16 dp
  · simp only [Bool.false_and, Bool.true_and]
    go_enter Try.func63, Try.ntmps63
    go_wp2_with (go_at_call 34; refine (fitN_any _ _ (by omega) _).mono ?_; rintro e w' ⟨rfl, rfl⟩)
    go_ret
    exact ⟨rfl, below1 w _⟩
  cases c5 : fitN 16 wi
  · simp only [Bool.false_and, Bool.true_and]
    go_enter Try.func63, Try.ntmps63
    go_wp2_with (go_at_call 34; refine (fitN_any _ _ (by omega) _).mono ?_; rintro e w' ⟨rfl, rfl⟩)
    go_ret
    exact ⟨rfl, below1 w _⟩
  simp only [Bool.true_and]
  go_enter Try.func63, Try.ntmps63
  go_wp2_with (go_at_call 34; refine (fitN_any _ _ (by omega) _).mono ?_; rintro e w' ⟨rfl, rfl⟩)
  go_ret
  exact ⟨rfl, below1 w _⟩
end Go.Proofs.Ytgonckbdkgiddaa
