/- Check of package l4 takes a UDP packet that fits. Conditions: as said. -/
import Derived.Test.YtajabhffpeckhabL4c
import Derived.Deep.RegionHeld3
import Derived.Deep.RegionWith
import Derived.Deep.DrawnRows
namespace Go.Proofs.Ytajabhffpeckhab
open Go.RowKit
attribute [local go_sem ↓] Go.wp_at_zero Go.wp_at_succ

theorem AtB.fourteen {W : World} {b : Nat} {x0 x1 x2 x3 x4 x5 x6 x7 x8 x9 x10 x11 x12 x13 : Value} (h : AtB W b #[x0, x1, x2, x3, x4, x5, x6, x7, x8, x9, x10, x11, x12, x13]) : W.cell? ⟨b, 0, none⟩ = some x0 ∧ W.cell? ⟨b, 1, none⟩ = some x1 ∧ W.cell? ⟨b, 2, none⟩ = some x2 ∧ W.cell? ⟨b, 3, none⟩ = some x3 ∧ W.cell? ⟨b, 4, none⟩ = some x4 ∧ W.cell? ⟨b, 5, none⟩ = some x5 ∧ W.cell? ⟨b, 6, none⟩ = some x6 ∧ W.cell? ⟨b, 7, none⟩ = some x7 ∧ W.cell? ⟨b, 8, none⟩ = some x8 ∧ W.cell? ⟨b, 9, none⟩ = some x9 ∧ W.cell? ⟨b, 10, none⟩ = some x10 ∧ W.cell? ⟨b, 11, none⟩ = some x11 ∧ W.cell? ⟨b, 12, none⟩ = some x12 ∧ W.cell? ⟨b, 13, none⟩ = some x13 :=
  ⟨h.2 0, h.2 1, h.2 2, h.2 3, h.2 4, h.2 5, h.2 6, h.2 7, h.2 8, h.2 9, h.2 10, h.2 11, h.2 12, h.2 13⟩

theorem udpV (sp dp : Int) (ns : Bool) (ds : List Int) : l4V 2 0 0 0 sp dp ns 0 0 0 0 0 [] ds = .agg #[.int .i64 2, .int .i64 0, .int .i64 0, .int .u32 0, .int .i64 sp, .int .i64 dp, .bool ns, .int .u32 0, .int .u32 0, .int .i64 0, .int .i64 0, .int .i64 0, .string ⟨#[]⟩, .string (strOfNums ds)] := rfl

set_option maxHeartbeats 2000000 in
theorem check_udp (sp dp : Int) (ns : Bool) (ds : List Int) (w : World) (h1 : fit16 sp = true) (h2 : fit16 dp = true) (hd : ds.length ≤ 65507) :
    Calls Try.prog 10 #[l4V 2 0 0 0 sp dp ns 0 0 0 0 0 [] ds] w fun e w' => e = .returned (.int .i64 0) ∧ Below w.heap.size w w' := by
  have hnum : numsOk 0 0 sp dp 0 0 0 = true := by
    unfold numsOk
    have e1 : fitN 16 sp = true := h1
    have e2 : fitN 16 dp = true := h2
    rw [e1, e2]; rfl
  have hfx : fixV 2 + (([] : List Int).length : Int) + ds.length = 8 + ds.length := by simp [fixV]
  have hsz := strOfNums_size ds
  have hdI : (ds.length : Int) ≤ 65507 := by omega
  have hneq : ∀ W, (binOp .neq 24 (.agg #[.int .i64 2, .int .i64 0, .int .i64 0, .int .u32 0, .int .i64 sp, .int .i64 dp, .bool ns, .int .u32 0, .int .u32 0, .int .i64 0, .int .i64 0, .int .i64 0, .string ⟨#[]⟩, .string (strOfNums ds)]) (.agg #[.int .i64 2, .int .i64 0, .int .i64 0, .int .u32 0, .int .i64 sp, .int .i64 dp, .bool ns, .int .u32 0, .int .u32 0, .int .i64 0, .int .i64 0, .int .i64 0, .string ⟨#[]⟩, .string (strOfNums ds)])).run Try.prog W = .ok (.bool false) W := fun W => by simp [go_sem]
  rw [udpV]
  go_enter Try.func10, Try.ntmps10
  go_wp2_with fail
  refine scope_from ?_
  go_wp2_with fail
  go_region
  have hA : Hid (AtB (((w.alloc (.cells #[.int .i64 2, .int .i64 0, .int .i64 0, .int .u32 0, .int .i64 sp, .int .i64 dp, .bool ns, .int .u32 0, .int .u32 0, .int .i64 0, .int .i64 0, .int .i64 0, .string ⟨#[]⟩, .string (strOfNums ds)] 24)).alloc (.cells #[.int .i64 2, .int .i64 0, .int .i64 0, .int .u32 0, .int .i64 sp, .int .i64 dp, .bool ns, .int .u32 0, .int .u32 0, .int .i64 0, .int .i64 0, .int .i64 0, .string ⟨#[]⟩, .string (strOfNums ds)] 24)).drew) w.heap.size #[.int .i64 2, .int .i64 0, .int .i64 0, .int .u32 0, .int .i64 sp, .int .i64 dp, .bool ns, .int .u32 0, .int .u32 0, .int .i64 0, .int .i64 0, .int .i64 0, .string ⟨#[]⟩, .string (strOfNums ds)]) := AtB.below (AtB.below (atB_new w #[.int .i64 2, .int .i64 0, .int .i64 0, .int .u32 0, .int .i64 sp, .int .i64 dp, .bool ns, .int .u32 0, .int .u32 0, .int .i64 0, .int .i64 0, .int .i64 0, .string ⟨#[]⟩, .string (strOfNums ds)] 24 _ rfl) (below1 _ _)) (Below.drew (Below.refl _ _))
  have hB : Below w.heap.size w (((w.alloc (.cells #[.int .i64 2, .int .i64 0, .int .i64 0, .int .u32 0, .int .i64 sp, .int .i64 dp, .bool ns, .int .u32 0, .int .u32 0, .int .i64 0, .int .i64 0, .int .i64 0, .string ⟨#[]⟩, .string (strOfNums ds)] 24)).alloc (.cells #[.int .i64 2, .int .i64 0, .int .i64 0, .int .u32 0, .int .i64 sp, .int .i64 dp, .bool ns, .int .u32 0, .int .u32 0, .int .i64 0, .int .i64 0, .int .i64 0, .string ⟨#[]⟩, .string (strOfNums ds)] 24)).drew) := (below2 w _ _).drew
  go_wp2_with fail
  rw [← udpV]
  refine (nums_any _ _ _ _ _ _ _ _ _ _ _ _ _ _ _).mono ?_
  rw [hnum, udpV]
  rintro e W2 ⟨rfl, hb2⟩
  obtain ⟨x0, x1, x2, x3, x4, x5, x6, x7, x8, x9, x10, x11, x12, x13⟩ := AtB.fourteen (AtB.below hA.out hb2)
  have hB2 : Below w.heap.size w W2 := hB.trans (hb2.mono hB.size)
  have _hA2 : Hid (AtB W2 w.heap.size #[.int .i64 2, .int .i64 0, .int .i64 0, .int .u32 0, .int .i64 sp, .int .i64 dp, .bool ns, .int .u32 0, .int .u32 0, .int .i64 0, .int .i64 0, .int .i64 0, .string ⟨#[]⟩, .string (strOfNums ds)]) := AtB.below hA.out hb2
  clear hA hB hb2
  go_wp2_with fail
  rw [← udpV]
  refine (sizeOf_any _ _ _ _ _ _ _ _ _ _ _ _ _ _ _ (by simp) (by omega)).mono ?_
  rw [hfx, udpV]
  rintro e W3 ⟨rfl, hb3⟩
  have hB3 : Below w.heap.size w W3 := hB2.trans (hb3.mono hB2.size)
  clear hb3 hB2
  go_wp2
  simp only [Exit.jumpTo]
  go_ret
  exact ⟨rfl, hB3⟩
end Go.Proofs.Ytajabhffpeckhab
