/- What eight, sixteen, First, Whole and Encode of the reference for ip answer, and First and Whole of package ip. Conditions: addresses of 32 bits, options as a list of bytes. -/
import Derived.Test.YtajabhffpeckhaaWEnc2
import Derived.Deep.RegionHeld3
import Derived.Deep.RegionWith
import Derived.Deep.DrawnRows
import Derived.Deep.RegionLaw
namespace Go.Proofs.Ytajabhffpeckhaa
open Go.RowKit

theorem eight_any (v : Int) (w : World) : Calls Try.prog 35 #[.int .i64 v] w fun e w' => e = .returned (.bool (fit8 v)) ∧ w' = w := by
  by_cases h1 : 0 ≤ v
  · have e : fit8 v = decide (v < 256) := by unfold fit8; rw [Bool.eq_iff_iff]; simp; omega
    rw [e]
    clear e
    go_enter Try.func35, Try.ntmps35
    go_wp2
    go_ret
    exact ⟨rfl, rfl⟩
  · have e : fit8 v = false := by simp [fit8, h1]
    rw [e]
    go_enter Try.func35, Try.ntmps35
    go_wp2
    go_ret
    exact ⟨by simp, rfl⟩
theorem sixteen_any (v : Int) (w : World) : Calls Try.prog 36 #[.int .i64 v] w fun e w' => e = .returned (.bool (fit16 v)) ∧ w' = w := by
  by_cases h1 : 0 ≤ v
  · have e : fit16 v = decide (v < 65536) := by unfold fit16; rw [Bool.eq_iff_iff]; simp; omega
    rw [e]
    clear e
    go_enter Try.func36, Try.ntmps36
    go_wp2
    go_ret
    exact ⟨rfl, rfl⟩
  · have e : fit16 v = false := by simp [fit16, h1]
    rw [e]
    go_enter Try.func36, Try.ntmps36
    go_wp2
    go_ret
    exact ⟨by simp, rfl⟩

theorem ip_First_any (tos id frag ttl pr src dst : Int) (os : List Int) (w : World) : Calls Try.prog 14 #[ipV tos id frag ttl pr src dst os] w fun e w' => e = .returned (.bool (bits .and .i64 frag 8191 == 0)) ∧ Below w.heap.size w w' := by
  unfold ipV
  go_enter Try.func14, Try.ntmps14
  go_wp2
  go_ret
  exact ⟨rfl, below1 w _⟩
theorem r3_First_any (tos id frag ttl pr src dst : Int) (os : List Int) (w : World) : Calls Try.prog 15 #[ipV tos id frag ttl pr src dst os] w fun e w' => e = .returned (.bool (bits .and .i64 frag 8191 == 0)) ∧ Below w.heap.size w w' := by
  unfold ipV
  go_enter Try.func15, Try.ntmps15
  go_wp2
  go_ret
  exact ⟨rfl, below1 w _⟩
theorem r3_Whole_any (tos id frag ttl pr src dst : Int) (os : List Int) (w : World) : Calls Try.prog 17 #[ipV tos id frag ttl pr src dst os] w fun e w' => e = .returned (.bool (bits .and .i64 frag 16383 == 0)) ∧ Below w.heap.size w w' := by
  unfold ipV
  go_enter Try.func17, Try.ntmps17
  go_wp2
  go_ret
  exact ⟨rfl, below1 w _⟩
theorem ip_Whole_any (tos id frag ttl pr src dst : Int) (os : List Int) (w : World) : Calls Try.prog 16 #[ipV tos id frag ttl pr src dst os] w fun e w' => e = .returned (.bool ((bits .and .i64 frag 8191 == 0) && (bits .and .i64 frag 8192 == 0))) ∧ Below w.heap.size w w' := by
  have hun : ipV tos id frag ttl pr src dst os = .agg #[.int .i64 tos, .int .i64 id, .int .i64 frag, .int .i64 ttl, .int .i64 pr, .int .u32 src, .int .u32 dst, .string (strOfNums os)] := rfl
  rw [hun]
  cases c : (bits .and .i64 frag 8191 == 0)
  all_goals
    go_enter Try.func16, Try.ntmps16
    go_wp2_with fail
    rw [← hun]
    refine (ip_First_any tos id frag ttl pr src dst os _).mono ?_
    rintro e w1 ⟨rfl, hb⟩
    rw [c]
    obtain ⟨x0, x1, x2, x3, x4, x5, x6, x7⟩ := AtB.eight (AtB.below (atB_new w #[.int .i64 tos, .int .i64 id, .int .i64 frag, .int .i64 ttl, .int .i64 pr, .int .u32 src, .int .u32 dst, .string (strOfNums os)] 25 _ rfl) hb)
    go_wp2
    go_ret
    exact ⟨rfl, (below1 w _).trans (hb.mono (by simp))⟩

set_option maxHeartbeats 2000000 in
theorem rencode_no (tos id frag ttl pr src dst : Int) (os : List Int) (data : Int) (w : World) (hn : os.length ≤ 281474976710656) (h : encOk tos id frag ttl pr os.length data = false) :
    Calls Try.prog 13 #[ipV tos id frag ttl pr src dst os, .int .i64 data] w fun e w' => e = .returned (.tuple #[.slice none 0 0, .int .i64 1]) ∧ Below w.heap.size w w' := by
  have hsz := strOfNums_size os
  have hnI : (os.length : Int) ≤ 281474976710656 := by omega
  have ht : (os.length : Int).tmod 4 = (os.length : Int) % 4 := Int.tmod_eq_emod_of_nonneg (by omega)
  rw [show ipV tos id frag ttl pr src dst os = .agg #[.int .i64 tos, .int .i64 id, .int .i64 frag, .int .i64 ttl, .int .i64 pr, .int .u32 src, .int .u32 dst, .string (strOfNums os)] from rfl]
  cases c0 : fit8 tos
  · clear h
    go_enter Try.func13, Try.ntmps13
    go_wp2_with (first
      | (go_at_call 35; refine (eight_any _ _).mono ?_; rintro e w' ⟨rfl, rfl⟩)
      | (go_at_call 36; refine (sixteen_any _ _).mono ?_; rintro e w' ⟨rfl, rfl⟩)
      | fail)
    go_ret2
    exact ⟨rfl, below1 w _⟩
  cases c1 : fit8 ttl
  · clear h
    go_enter Try.func13, Try.ntmps13
    go_wp2_with (first
      | (go_at_call 35; refine (eight_any _ _).mono ?_; rintro e w' ⟨rfl, rfl⟩)
      | (go_at_call 36; refine (sixteen_any _ _).mono ?_; rintro e w' ⟨rfl, rfl⟩)
      | fail)
    go_ret2
    exact ⟨rfl, below1 w _⟩
  cases c2 : fit8 pr
  · clear h
    go_enter Try.func13, Try.ntmps13
    go_wp2_with (first
      | (go_at_call 35; refine (eight_any _ _).mono ?_; rintro e w' ⟨rfl, rfl⟩)
      | (go_at_call 36; refine (sixteen_any _ _).mono ?_; rintro e w' ⟨rfl, rfl⟩)
      | fail)
    go_ret2
    exact ⟨rfl, below1 w _⟩
  cases c3 : fit16 id
  · clear h
    go_enter Try.func13, Try.ntmps13
    go_wp2_with (first
      | (go_at_call 35; refine (eight_any _ _).mono ?_; rintro e w' ⟨rfl, rfl⟩)
      | (go_at_call 36; refine (sixteen_any _ _).mono ?_; rintro e w' ⟨rfl, rfl⟩)
      | fail)
    go_ret2
    exact ⟨rfl, below1 w _⟩
  cases c4 : fit16 frag
  · clear h
    go_enter Try.func13, Try.ntmps13
    go_wp2_with (first
      | (go_at_call 35; refine (eight_any _ _).mono ?_; rintro e w' ⟨rfl, rfl⟩)
      | (go_at_call 36; refine (sixteen_any _ _).mono ?_; rintro e w' ⟨rfl, rfl⟩)
      | fail)
    go_ret2
    exact ⟨rfl, below1 w _⟩
  by_cases c6 : (40 : Int) < os.length
  · clear h
    go_enter Try.func13, Try.ntmps13
    go_wp2_with (first
      | (go_at_call 35; refine (eight_any _ _).mono ?_; rintro e w' ⟨rfl, rfl⟩)
      | (go_at_call 36; refine (sixteen_any _ _).mono ?_; rintro e w' ⟨rfl, rfl⟩)
      | fail)
    go_ret2
    exact ⟨rfl, below1 w _⟩
  cases c7 : ((os.length : Int) % 4 != 0)
  · have c7' : os.length % 4 = 0 := by simp at c7; omega
    by_cases c8 : data < 0
    · clear h
      go_enter Try.func13, Try.ntmps13
      go_wp2_with (first
        | (go_at_call 35; refine (eight_any _ _).mono ?_; rintro e w' ⟨rfl, rfl⟩)
        | (go_at_call 36; refine (sixteen_any _ _).mono ?_; rintro e w' ⟨rfl, rfl⟩)
        | fail)
      go_ret2
      exact ⟨rfl, below1 w _⟩
    · have c9 : 65535 - (20 + (os.length : Int)) < data := by
        simp [encOk, headOk, c0, c1, c2, c3, c4, c7'] at h
        omega
      clear h
      go_enter Try.func13, Try.ntmps13
      go_wp2_with (first
        | (go_at_call 35; refine (eight_any _ _).mono ?_; rintro e w' ⟨rfl, rfl⟩)
        | (go_at_call 36; refine (sixteen_any _ _).mono ?_; rintro e w' ⟨rfl, rfl⟩)
        | fail)
      go_ret2
      exact ⟨rfl, below1 w _⟩
  · clear h
    go_enter Try.func13, Try.ntmps13
    go_wp2_with (first
      | (go_at_call 35; refine (eight_any _ _).mono ?_; rintro e w' ⟨rfl, rfl⟩)
      | (go_at_call 36; refine (sixteen_any _ _).mono ?_; rintro e w' ⟨rfl, rfl⟩)
      | fail)
    go_ret2
    exact ⟨rfl, below1 w _⟩

end Go.Proofs.Ytajabhffpeckhaa
