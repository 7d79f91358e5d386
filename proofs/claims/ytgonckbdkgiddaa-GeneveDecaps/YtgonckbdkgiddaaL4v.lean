/- Decode of package l4, by what its parts answer. Conditions: as said. -/
import Derived.Test.YtgonckbdkgiddaaL4i
import Derived.Test.YtgonckbdkgiddaaL4x
namespace Go.Proofs.Ytgonckbdkgiddaa
open Go.RowKit

theorem free_of {W : World} {b i : Nat} {arr : Array Value} {t : TypeId} (h : W.heap[b]? = some (.cells arr t (0, 0))) : W.frozen? ⟨b, i, none⟩ = false := by
  unfold World.frozen?
  simp [h]
theorem same_is {V : World} {a : Addr} (v : Value) (h : (V.cell? a).isSome = true) : (V.setCell a v).cell? a = some v := by
  obtain ⟨x, hx⟩ := Option.isSome_iff_exists.1 h
  exact World.cell?_setCell_same _ _ _ hx
set_option maxHeartbeats 1000000 in
theorem decode_bad (src dst p k f : Int) (hk : kindV p = k) (hf : (f != 0) = true) (w : World) (a : Option Addr) (n cap : Nat) (zs : List Int) (h : BS w a n zs)
    (hm : ∀ W, BS W a n zs → Calls Try.prog 58 #[.int .i64 k, .slice a n cap] W fun e w' => e = .returned (.int .i64 f) ∧ w' = W) :
    Calls Try.prog 25 #[.int .u32 src, .int .u32 dst, .int .i64 p, .slice a n cap] w fun e w' => e = .returned (.tuple #[.agg #[.int .i64 0, .int .i64 0, .int .i64 0, .int .u32 0, .int .i64 0, .int .i64 0, .bool false, .int .u32 0, .int .u32 0, .int .i64 0, .int .i64 0, .int .i64 0, .string ⟨#[]⟩, .string ⟨#[]⟩], .int .i64 f]) ∧ Below w.heap.size w w' := by
  have HM : Hid _ := hm
  have H : Hid (BS (w.alloc (.cells #[.int .i64 0, .int .i64 0, .int .i64 0, .int .u32 0, .int .i64 0, .int .i64 0, .bool false, .int .u32 0, .int .u32 0, .int .i64 0, .int .i64 0, .int .i64 0, .string ⟨#[]⟩, .string ⟨#[]⟩] 48)) a n zs) := h.below (below1 w _)
  clear h hm
  go_enter Try.func25, Try.ntmps25
  go_wp2_with fail
  refine scope_from ?_
  go_wp2_with (first
    | (go_at_call 57; refine (kind_any _ _).mono ?_; rintro e w' ⟨rfl, rfl⟩; rw [hk])
    | (go_at_call 58; refine (HM.out _ H.out).mono ?_; rintro e w' ⟨rfl, rfl⟩)
    | fail)
  go_step3
  show FromLabel _ _ _ _ _ _
  refine from_label rfl ?_
  go_wp2
  simp only [Exit.jumpTo]
  refine bodyPost_ret (v := .tuple #[.agg #[.int .i64 0, .int .i64 0, .int .i64 0, .int .u32 0, .int .i64 0, .int .i64 0, .bool false, .int .u32 0, .int .u32 0, .int .i64 0, .int .i64 0, .int .i64 0, .string ⟨#[]⟩, .string ⟨#[]⟩], .int .i64 f]) ?_ rfl ⟨rfl, ?_⟩
  · simp [results, Try.results25, go_sem]
  · exact below1 w _

set_option maxHeartbeats 1000000 in
theorem decode_sum (src dst p k : Int) (hk : kindV p = k) (w : World) (a : Option Addr) (n cap : Nat) (zs : List Int) (h : BS w a n zs)
    (hm : ∀ W, BS W a n zs → Calls Try.prog 58 #[.int .i64 k, .slice a n cap] W fun e w' => e = .returned (.int .i64 0) ∧ w' = W)
    (hr : ∀ W, BS W a n zs → Calls Try.prog 59 #[.int .u32 src, .int .u32 dst, .int .i64 k, .slice a n cap] W fun e w' => e = .returned (.bool false) ∧ ∃ nq, w' = W.drewN nq) :
    Calls Try.prog 25 #[.int .u32 src, .int .u32 dst, .int .i64 p, .slice a n cap] w fun e w' => e = .returned (.tuple #[.agg #[.int .i64 0, .int .i64 0, .int .i64 0, .int .u32 0, .int .i64 0, .int .i64 0, .bool false, .int .u32 0, .int .u32 0, .int .i64 0, .int .i64 0, .int .i64 0, .string ⟨#[]⟩, .string ⟨#[]⟩], .int .i64 30]) ∧ Below w.heap.size w w' := by
  have HM : Hid _ := hm
  have HR : Hid _ := hr
  have H : Hid (BS (w.alloc (.cells #[.int .i64 0, .int .i64 0, .int .i64 0, .int .u32 0, .int .i64 0, .int .i64 0, .bool false, .int .u32 0, .int .u32 0, .int .i64 0, .int .i64 0, .int .i64 0, .string ⟨#[]⟩, .string ⟨#[]⟩] 48)) a n zs) := h.below (below1 w _)
  clear h hm hr
  go_enter Try.func25, Try.ntmps25
  go_wp2_with fail
  refine scope_from ?_
  go_wp2_with (first
    | (go_at_call 57; refine (kind_any _ _).mono ?_; rintro e w' ⟨rfl, rfl⟩; rw [hk])
    | (go_at_call 58; refine (HM.out _ H.out).mono ?_; rintro e w' ⟨rfl, rfl⟩)
    | fail)
  refine (HR.out _ H.out).mono ?_
  rintro e W1 ⟨rfl, nq, hW1⟩
  have hh : W1.heap[w.heap.size]? = some (.cells #[.int .i64 0, .int .i64 0, .int .i64 0, .int .u32 0, .int .i64 0, .int .i64 0, .bool false, .int .u32 0, .int .u32 0, .int .i64 0, .int .i64 0, .int .i64 0, .string ⟨#[]⟩, .string ⟨#[]⟩] 48 (0, 0)) := by rw [hW1]; exact heap_alloc_new w _
  have hB : Hid (Below w.heap.size w W1) := by rw [hW1]; exact below_drewN (below1 w _) _
  have hA : AtB W1 w.heap.size #[.int .i64 0, .int .i64 0, .int .i64 0, .int .u32 0, .int .i64 0, .int .i64 0, .bool false, .int .u32 0, .int .u32 0, .int .i64 0, .int .i64 0, .int .i64 0, .string ⟨#[]⟩, .string ⟨#[]⟩] := by rw [hW1]; exact atB_new w _ 48 _ rfl
  obtain ⟨x0, x1, x2, x3, x4, x5, x6, x7, x8, x9, x10, x11, x12, x13⟩ := AtB.cells14 hA
  have f0 : W1.frozen? ⟨w.heap.size, 0, none⟩ = false := free_of hh
  have f1 : W1.frozen? ⟨w.heap.size, 1, none⟩ = false := free_of hh
  have f2 : W1.frozen? ⟨w.heap.size, 2, none⟩ = false := free_of hh
  have f3 : W1.frozen? ⟨w.heap.size, 3, none⟩ = false := free_of hh
  have f4 : W1.frozen? ⟨w.heap.size, 4, none⟩ = false := free_of hh
  have f5 : W1.frozen? ⟨w.heap.size, 5, none⟩ = false := free_of hh
  have f6 : W1.frozen? ⟨w.heap.size, 6, none⟩ = false := free_of hh
  have f7 : W1.frozen? ⟨w.heap.size, 7, none⟩ = false := free_of hh
  have f8 : W1.frozen? ⟨w.heap.size, 8, none⟩ = false := free_of hh
  have f9 : W1.frozen? ⟨w.heap.size, 9, none⟩ = false := free_of hh
  have f10 : W1.frozen? ⟨w.heap.size, 10, none⟩ = false := free_of hh
  have f11 : W1.frozen? ⟨w.heap.size, 11, none⟩ = false := free_of hh
  have f12 : W1.frozen? ⟨w.heap.size, 12, none⟩ = false := free_of hh
  have f13 : W1.frozen? ⟨w.heap.size, 13, none⟩ = false := free_of hh
  clear hW1 hA hh
  go_wp2_with fail
  go_step3
  show FromLabel _ _ _ _ _ _
  refine from_label rfl ?_
  go_wp2
  simp only [Exit.jumpTo]
  refine bodyPost_ret (v := .tuple #[.agg #[.int .i64 0, .int .i64 0, .int .i64 0, .int .u32 0, .int .i64 0, .int .i64 0, .bool false, .int .u32 0, .int .u32 0, .int .i64 0, .int .i64 0, .int .i64 0, .string ⟨#[]⟩, .string ⟨#[]⟩], .int .i64 30]) ?_ rfl ⟨rfl, ?_⟩
  · simp [results, Try.results25, go_sem, same_is, x0, x1, x2, x3, x4, x5, x6, x7, x8, x9, x10, x11, x12, x13]
  · iterate 14 refine Below.setCell ?_ (show w.heap.size ≤ w.heap.size from Nat.le_refl _) _
    exact hB.out

set_option maxHeartbeats 1000000 in
theorem decode_ok (src dst p k : Int) (hk : kindV p = k) (w : World) (a : Option Addr) (n cap : Nat) (zs : List Int) (h : BS w a n zs) (a0 a1 a2 a3 a4 a5 : Int) (a6 : Bool) (a7 a8 a9 a10 a11 : Int) (a12 a13 : ByteArray)
    (hm : ∀ W, BS W a n zs → Calls Try.prog 58 #[.int .i64 k, .slice a n cap] W fun e w' => e = .returned (.int .i64 0) ∧ w' = W)
    (hr : ∀ W, BS W a n zs → Calls Try.prog 59 #[.int .u32 src, .int .u32 dst, .int .i64 k, .slice a n cap] W fun e w' => e = .returned (.bool true) ∧ ∃ nq, w' = W.drewN nq)
    (hd : ∀ W, BS W a n zs → Calls Try.prog 60 #[.int .i64 k, .slice a n cap] W fun e w' => e = .returned (.agg #[.int .i64 a0, .int .i64 a1, .int .i64 a2, .int .u32 a3, .int .i64 a4, .int .i64 a5, .bool a6, .int .u32 a7, .int .u32 a8, .int .i64 a9, .int .i64 a10, .int .i64 a11, .string a12, .string a13]) ∧ ∃ A B C D, w' = (((W.alloc A).alloc B).alloc C).alloc D) :
    Calls Try.prog 25 #[.int .u32 src, .int .u32 dst, .int .i64 p, .slice a n cap] w fun e w' => e = .returned (.tuple #[.agg #[.int .i64 a0, .int .i64 a1, .int .i64 a2, .int .u32 a3, .int .i64 a4, .int .i64 a5, .bool a6, .int .u32 a7, .int .u32 a8, .int .i64 a9, .int .i64 a10, .int .i64 a11, .string a12, .string a13], .int .i64 0]) ∧ Below w.heap.size w w' := by
  have HM : Hid _ := hm
  have HR : Hid _ := hr
  have HD : Hid _ := hd
  have H : Hid (BS (w.alloc (.cells #[.int .i64 0, .int .i64 0, .int .i64 0, .int .u32 0, .int .i64 0, .int .i64 0, .bool false, .int .u32 0, .int .u32 0, .int .i64 0, .int .i64 0, .int .i64 0, .string ⟨#[]⟩, .string ⟨#[]⟩] 48)) a n zs) := h.below (below1 w _)
  clear h hm hr hd
  go_enter Try.func25, Try.ntmps25
  go_wp2_with fail
  refine scope_from ?_
  go_wp2_with (first
    | (go_at_call 57; refine (kind_any _ _).mono ?_; rintro e w' ⟨rfl, rfl⟩; rw [hk])
    | (go_at_call 58; refine (HM.out _ H.out).mono ?_; rintro e w' ⟨rfl, rfl⟩)
    | (go_at_call 59; refine (HR.out _ H.out).mono ?_; rintro e w' ⟨rfl, nq, rfl⟩; rw [show ((w.alloc (.cells #[.int .i64 0, .int .i64 0, .int .i64 0, .int .u32 0, .int .i64 0, .int .i64 0, .bool false, .int .u32 0, .int .u32 0, .int .i64 0, .int .i64 0, .int .i64 0, .string ⟨#[]⟩, .string ⟨#[]⟩] 48)).drewN nq) = (w.drewN nq).alloc (.cells #[.int .i64 0, .int .i64 0, .int .i64 0, .int .u32 0, .int .i64 0, .int .i64 0, .bool false, .int .u32 0, .int .u32 0, .int .i64 0, .int .i64 0, .int .i64 0, .string ⟨#[]⟩, .string ⟨#[]⟩] 48) from rfl])
    | (go_at_call 60; refine (HD.out _ (H.out.drewN _)).mono ?_; rintro e w1 ⟨rfl, A, B, C, D, rfl⟩)
    | fail)
  simp only [Exit.jumpTo]
  refine bodyPost_ret (v := .tuple #[.agg #[.int .i64 a0, .int .i64 a1, .int .i64 a2, .int .u32 a3, .int .i64 a4, .int .i64 a5, .bool a6, .int .u32 a7, .int .u32 a8, .int .i64 a9, .int .i64 a10, .int .i64 a11, .string a12, .string a13], .int .i64 0]) ?_ rfl ⟨rfl, ?_⟩
  · simp [results, Try.results25, go_sem]
  · refine Below.alloc (Below.alloc (Below.alloc (Below.alloc ?_ ?_ _) ?_ _) ?_ _) ?_ _
    iterate 14 refine Below.setCell ?_ (show w.heap.size ≤ w.heap.size from Nat.le_refl _) _
    exact below_drewN (below1 w _) _
    all_goals (simp; try omega)
end Go.Proofs.Ytgonckbdkgiddaa
