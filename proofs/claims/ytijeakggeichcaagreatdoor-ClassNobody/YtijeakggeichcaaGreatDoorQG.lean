/- Texts of the two shapes that the laws' lives has. Condition: the table of trailing zeros holds 4 at its fifteenth place. -/
import Derived.Test.YtijeakggeichcaaGreatDoorQF
import Derived.Handy
import Derived.Laws.BytesArg
namespace Go.Proofs.YtijeakggeichcaaGreatDoor
open Go.RowKit
set_option maxRecDepth 20000 in
set_option maxHeartbeats 1000000 in
theorem formatBits_0 (w : World) (htab : w.cell? ⟨2, 15, none⟩ = some (.int .u8 4)) : Calls Tryz.prog 150 #[.slice none 0 0, .int .u64 0, .int .i64 16, .bool false, .bool false] w fun e w' => e = .returned (.tuple #[.slice none 0 0, .string ⟨#[48]⟩]) ∧ Below w.heap.size w w' := by
  have hlt : 2 < w.heap.size := cell_lt htab
  have HT : Hid _ := htab
  clear htab
  go_enter Tryz.func150, Tryz.ntmps150
  go_wp2_with fail
  refine (pow2_16 _).mono ?_
  rintro e w' ⟨rfl, rfl⟩
  go_wp2_with fail
  refine (tz_16 _ ((World.cell?_alloc_lt (a := ⟨2, 15, none⟩) _ _ hlt).trans HT.out)).mono ?_
  rintro e w' ⟨rfl, rfl⟩
  go_wp2_with fail
  go_rounds 2
  rw [run_convert_bytes_arg (P := Tryz.prog) _ 112 5 Tryz.underlying112 Tryz.underlying5 w.heap.size 64 1 1 [48] rfl ?hc 9 Tryz.underlying9]
  case hc =>
    intro i hi
    rw [World.cell?_alloc_new]
    obtain rfl : i = 0 := by omega
    rfl
  simp only [Result.andThen]
  rw [Oper.upon_value]
  go_wp2
  go_ret2
  exact ⟨rfl, below1 _ _⟩

set_option maxHeartbeats 400000 in
theorem formatUint_0 (w : World) (htab : w.cell? ⟨2, 15, none⟩ = some (.int .u8 4)) : Calls Tryz.prog 135 #[.int .u64 0, .int .i64 16] w fun e w' => e = .returned (.string ⟨#[48]⟩) ∧ Below w.heap.size w w' := by
  have HT : Hid _ := htab
  clear htab
  go_enter Tryz.func135, Tryz.ntmps135
  go_wp2_with fail
  refine (formatBits_0 _ HT.out).mono ?_
  rintro e w' ⟨rfl, hb⟩
  have HB : Hid _ := hb
  clear hb
  go_wp2_with fail
  go_ret
  exact ⟨rfl, HB.out⟩
set_option maxHeartbeats 400000 in
theorem sformatUint_0 (w : World) (htab : w.cell? ⟨2, 15, none⟩ = some (.int .u8 4)) : Calls Tryz.prog 89 #[.int .u64 0, .int .i64 16] w fun e w' => e = .returned (.string ⟨#[48]⟩) ∧ Below w.heap.size w w' := by
  have HT : Hid _ := htab
  clear htab
  go_enter Tryz.func89, Tryz.ntmps89
  go_wp2_with fail
  refine (formatUint_0 _ HT.out).mono ?_
  rintro e w' ⟨rfl, hb⟩
  have HB : Hid _ := hb
  clear hb
  go_wp2_with fail
  go_ret
  exact ⟨rfl, HB.out⟩
set_option maxHeartbeats 400000 in
theorem hex_0 (w : World) (htab : w.cell? ⟨2, 15, none⟩ = some (.int .u8 4)) : Calls Tryz.prog 60 #[.int .u64 0] w fun e w' => e = .returned (.string ⟨#[48, 120, 48]⟩) ∧ Below w.heap.size w w' := by
  have HT : Hid _ := htab
  clear htab
  go_enter Tryz.func60, Tryz.ntmps60
  go_wp2_with fail
  refine (sformatUint_0 _ HT.out).mono ?_
  rintro e w' ⟨rfl, hb⟩
  have HB : Hid _ := hb
  clear hb
  go_wp2_with fail
  go_ret
  exact ⟨rfl, HB.out⟩

/-- The shape of the laws' own rule. -/
def tD : Tm := ⟨11, 0#64, 4294967295#64⟩
theorem drew_heap (w : World) : w.drew.heap = w.heap := rfl
set_option linter.unusedSimpArgs false in
set_option maxHeartbeats 4000000 in
set_option maxRecDepth 20000 in
theorem text_dst (v : Value) (w : World) (h : TV w v [tD]) (htab : w.cell? ⟨2, 15, none⟩ = some (.int .u8 4)) :
    Calls Tryz.prog 37 #[v] w fun e w' => e = .returned (.string ⟨#[105, 112, 52, 46, 100, 115, 116, 32, 61, 61, 32, 48, 120, 48]⟩) ∧ Below w.heap.size w w' := by
  obtain ⟨a, n, c, rfl, hc, h⟩ := h
  obtain rfl : 1 = n := h.len
  have H : Hid _ := h
  have HT : Hid _ := htab
  have hgl : 2 < w.heap.size := cell_lt htab
  clear h htab
  have TAB : Hid (∀ W, Below w.heap.size w W → W.cell? ⟨2, 15, none⟩ = some (.int .u8 4)) := fun W hb => (hb.cell (p := ⟨2, 15, none⟩) hgl).trans HT.out
  go_enter Tryz.func37, Tryz.ntmps37
  have h0 : Lib.IsBuilder 131 5 w.heap.size w.heap.size (Lib.byteCells []) (w.alloc (.cells #[.pointer none, .slice none 0 0] 131)) := Lib.fresh_isBuilder 131 5 w
  have HI0 : Hid _ := h0
  have HB0 : Hid _ := below1 w (.cells #[.pointer none, .slice none 0 0] 131)
  clear h0
  go_wp2_with fail
  refine wp_loop_rounds 2 ?_
  obtain ⟨b0, o0, rfl, c0', c1', c2', hbl0⟩ := H.out.at (k := 0) (t := tD) rfl
  have c0 : w.cell? ⟨b0, o0, none⟩ = some (.int .i64 11) := c0'
  have c1 : w.cell? ⟨b0, o0 + 1, none⟩ = some (.int .u64 0) := c1'
  have c2 : w.cell? ⟨b0, o0 + 2, none⟩ = some (.int .u64 4294967295) := c2'
  clear c0' c1' c2'
  rw [rounds_succ]
  have HZ1 : Hid _ := two_last w (.cells #[.pointer none, .slice none 0 0] 131) (.cells #[.int .i64 11, .int .u64 0, .int .u64 4294967295] 68)
  have HI1 : Hid _ := isB_below HI0.out (below1 (w.alloc (.cells #[.pointer none, .slice none 0 0] 131)) (.cells #[.int .i64 11, .int .u64 0, .int .u64 4294967295] 68))
  have HB1 : Hid _ := HB0.out.trans ((below1 (w.alloc (.cells #[.pointer none, .slice none 0 0] 131)) (.cells #[.int .i64 11, .int .u64 0, .int .u64 4294967295] 68)).mono HB0.out.size)
  clear HI0 HB0
  have d0 : True := trivial
  have d1 : True := trivial
  have d2 : True := trivial
  go_wp2_with fail
  refine (nameOf_any 11 (by omega) (by omega) _).mono ?_
  rintro e W2 ⟨rfl, hb⟩
  have HI2 : Hid _ := isB_below HI1.out hb
  have HB2 : Hid (Below w.heap.size w W2) := HB1.out.trans (hb.mono HB1.out.size)
  have HZ2 : Hid _ := (Kept.below hb) _ _ HZ1.out
  clear hb d0 d1 d2 HI1 HB1 HZ1
  have d0 := cell_row HZ2.out 0
  have d1 := cell_row HZ2.out 1
  have d2 := cell_row HZ2.out 2
  simp only [List.getElem?_toArray, List.getElem?_cons_zero, List.getElem?_cons_succ] at d0 d1 d2
  go_wp2_with fail
  refine (writeString_any w.heap.size w.heap.size [] (fName 11) _ HI2.out (by decide +kernel) HB2.out.size).mono ?_
  rintro e W3 ⟨rfl, hi, hb, hk⟩
  have HI3 : Hid (Lib.IsBuilder 131 5 w.heap.size w.heap.size (Lib.byteCells [105, 112, 52, 46, 100, 115, 116]) W3) := hi
  have HB3 : Hid (Below w.heap.size w W3) := HB2.out.trans hb
  have HZ3 : Hid _ := hk _ _ HZ2.out
  clear hi hb hk d0 d1 d2 HI2 HB2 HZ2
  have d0 := cell_row HZ3.out 0
  have d1 := cell_row HZ3.out 1
  have d2 := cell_row HZ3.out 2
  simp only [List.getElem?_toArray, List.getElem?_cons_zero, List.getElem?_cons_succ] at d0 d1 d2
  go_wp2_with fail
  refine (writeString_any w.heap.size w.heap.size [105, 112, 52, 46, 100, 115, 116] ⟨#[32, 61, 61, 32]⟩ _ HI3.out (by decide +kernel) HB3.out.size).mono ?_
  rintro e W4 ⟨rfl, hi, hb, hk⟩
  have HI4 : Hid (Lib.IsBuilder 131 5 w.heap.size w.heap.size (Lib.byteCells [105, 112, 52, 46, 100, 115, 116, 32, 61, 61, 32]) W4) := hi
  have HB4 : Hid (Below w.heap.size w W4) := HB3.out.trans hb
  have HZ4 : Hid _ := hk _ _ HZ3.out
  clear hi hb hk d0 d1 d2 HI3 HB3 HZ3
  have d0 := cell_row HZ4.out 0
  have d1 := cell_row HZ4.out 1
  have d2 := cell_row HZ4.out 2
  simp only [List.getElem?_toArray, List.getElem?_cons_zero, List.getElem?_cons_succ] at d0 d1 d2
  go_wp2_with fail
  refine (hex_0 _ (TAB.out _ HB4.out)).mono ?_
  rintro e W5 ⟨rfl, hb⟩
  have HI5 : Hid _ := isB_below HI4.out hb
  have HB5 : Hid (Below w.heap.size w W5) := HB4.out.trans (hb.mono HB4.out.size)
  have HZ5 : Hid _ := (Kept.below hb) _ _ HZ4.out
  clear hb d0 d1 d2 HI4 HB4 HZ4
  have d0 := cell_row HZ5.out 0
  have d1 := cell_row HZ5.out 1
  have d2 := cell_row HZ5.out 2
  simp only [List.getElem?_toArray, List.getElem?_cons_zero, List.getElem?_cons_succ] at d0 d1 d2
  go_wp2_with fail
  refine (writeString_any w.heap.size w.heap.size [105, 112, 52, 46, 100, 115, 116, 32, 61, 61, 32] ⟨#[48, 120, 48]⟩ _ HI5.out (by decide +kernel) HB5.out.size).mono ?_
  rintro e W6 ⟨rfl, hi, hb, hk⟩
  have HI6 : Hid (Lib.IsBuilder 131 5 w.heap.size w.heap.size (Lib.byteCells [105, 112, 52, 46, 100, 115, 116, 32, 61, 61, 32, 48, 120, 48]) W6) := hi
  have HB6 : Hid (Below w.heap.size w W6) := HB5.out.trans hb
  have HZ6 : Hid _ := hk _ _ HZ5.out
  clear hi hb hk d0 d1 d2 HI5 HB5 HZ5
  have d0 := cell_row HZ6.out 0
  have d1 := cell_row HZ6.out 1
  have d2 := cell_row HZ6.out 2
  simp only [List.getElem?_toArray, List.getElem?_cons_zero, List.getElem?_cons_succ] at d0 d1 d2
  have KC0 : Hid (∀ W, Below W6.heap.size W6 W → W.cell? ⟨(w.heap.size + 1), 0, none⟩ = some (.int .i64 11) ∧ W.cell? ⟨(w.heap.size + 1), 2, none⟩ = some (.int .u64 4294967295) ∧ Below W6.heap.size W6 W) := fun W hb => by
    have hz := (Kept.below hb) _ _ HZ6.out
    exact ⟨cell_row hz 0, cell_row hz 2, hb⟩
  have ha0 : abN 11 = 4294967295 := by decide +kernel
  have HA0 : Hid _ := ha0
  clear ha0
  go_wp2_with fail
  refine wp_region_held_drew (S := (fun W => W.cell? ⟨(w.heap.size + 1), 0, none⟩ = some (.int .i64 11) ∧ W.cell? ⟨(w.heap.size + 1), 2, none⟩ = some (.int .u64 4294967295) ∧ Below W6.heap.size W6 W)) (by kernel_rfl) ?_ (fun hHeld => ?_)
  · exact KC0.out _ (Below.refl _ _).drew
  refine wpAnyH_take (i := 0) (v := ?_) rfl (by kernel_rfl) (by kernel_rfl) (by kernel_rfl) (fun _ _ _ h => h) (Or.inl ⟨by rfl, ?_⟩) (by assumption) ?_
  rotate_left
  · (intro w hSw; (try dsimp only at hSw); go_simp; try with_reducible rfl)
  try simp only [List.getElem_toArray, List.getElem_cons_zero, List.getElem_cons_succ, Act.put, List.setIfInBounds_toArray, List.set_cons_zero, List.set_cons_succ]
  refine wpAnyH_take (i := 1) (v := ?_) rfl (by kernel_rfl) (by kernel_rfl) (by kernel_rfl) (fun _ _ _ h => h) (Or.inl ⟨by rfl, ?_⟩) (by assumption) ?_
  rotate_left
  · (intro w hSw; (try dsimp only at hSw); go_simp; try with_reducible rfl)
  try simp only [List.getElem_toArray, List.getElem_cons_zero, List.getElem_cons_succ, Act.put, List.setIfInBounds_toArray, List.set_cons_zero, List.set_cons_succ]
  refine wpAnyH_take (i := 2) (v := ?_) rfl (by kernel_rfl) (by kernel_rfl) (by kernel_rfl) (fun _ _ _ h => h) (Or.inl ⟨by rfl, ?_⟩) (by assumption) ?_
  rotate_left
  · (intro w hSw; (try dsimp only at hSw); go_simp; try with_reducible rfl)
  try simp only [List.getElem_toArray, List.getElem_cons_zero, List.getElem_cons_succ, Act.put, List.setIfInBounds_toArray, List.set_cons_zero, List.set_cons_succ]
  refine wpAnyH_take (i := 3) (v := ?_) rfl (by kernel_rfl) (by kernel_rfl) (by kernel_rfl) (fun _ _ _ h => h) (Or.inl ⟨by rfl, ?_⟩) (by assumption) ?_
  rotate_left
  · (intro w hSw; (try dsimp only at hSw); go_simp; try with_reducible rfl)
  try simp only [List.getElem_toArray, List.getElem_cons_zero, List.getElem_cons_succ, Act.put, List.setIfInBounds_toArray, List.set_cons_zero, List.set_cons_succ]
  refine wpAnyH_ready (rs := [4]) (by kernel_rfl) (by simp) ?_
  refine AllReadyH.cons (o := _) rfl (fun K hK => ?_) AllReadyH.nil
  go_simp
  refine (allBits_any _ _).mono ?_
  rw [HA0.out]
  rintro e W7 ⟨rfl, hb⟩
  have HW : Hid (Below W6.heap.size W6 W7) := hHeld.2.2.trans (hb.mono hHeld.2.2.size)
  have HI7 : Hid _ := isB_below HI6.out HW.out
  have HB7 : Hid (Below w.heap.size w W7) := HB6.out.trans (HW.out.mono HB6.out.size)
  go_wp2_with fail
  refine hK.out _ _ (KC0.out _ HW.out) (fun hHeld2 => ?_)
  clear hK K hb hHeld d0 d1 d2 HI6 HB6 HZ6
  try simp only [List.getElem_toArray, List.getElem_cons_zero, List.getElem_cons_succ, Act.put, List.setIfInBounds_toArray, List.set_cons_zero, List.set_cons_succ]
  refine wpAnyH_take (i := 5) (v := ?_) rfl (by kernel_rfl) (by kernel_rfl) (by kernel_rfl) (fun _ _ _ h => h) (Or.inl ⟨by rfl, ?_⟩) (by assumption) ?_
  rotate_left
  · (intro w hSw; (try dsimp only at hSw); go_simp; try with_reducible rfl)
  try simp only [List.getElem_toArray, List.getElem_cons_zero, List.getElem_cons_succ, Act.put, List.setIfInBounds_toArray, List.set_cons_zero, List.set_cons_succ]
  refine wpAnyH_done (by kernel_rfl) ?_ _
  clear hHeld2 KC0 HW c0 c1 c2
  go_wp2_with fail
  rw [rounds_succ]
  go_wp2_with fail
  refine (string_any w.heap.size w.heap.size [105, 112, 52, 46, 100, 115, 116, 32, 61, 61, 32, 48, 120, 48] _ HI7.out (by simp)).mono ?_
  rintro e WZ ⟨rfl, hb⟩
  have HBZ : Hid (Below w.heap.size w WZ) := HB7.out.trans hb
  clear hb
  go_wp2_with fail
  go_ret
  exact ⟨rfl, HBZ.out⟩
set_option maxHeartbeats 1000000 in
theorem string_none (b : Nat) (w : World) (h : w.heap[b]? = some (.cells #[.pointer none, .slice none 0 0] 131 (0, 0))) :
    Calls Tryz.prog 62 #[.pointer (some ⟨b, 0, none⟩)] w fun e w' => e = .returned (.string ⟨#[]⟩) ∧ Below w.heap.size w w' := by
  have c1 : w.drew.cell? ⟨b, 1, none⟩ = some (.slice none 0 0) := by
    have : w.drew.heap[b]? = some (.cells #[.pointer none, .slice none 0 0] 131 (0, 0)) := h
    rw [Lib.cell_of_heap this]; rfl
  have hSD : (Builtin.unsafeSliceData_ #[112] 172 #[.slice none 0 0]).run Tryz.prog w.drew = .ok (.pointer none) w.drew := by
    first | kernel_rfl | simp [Builtin.unsafeSliceData_, go_sem]
  have hUS : (Builtin.unsafeString_ #[172, 3] 9 #[.pointer none, .int .i64 0]).run Tryz.prog w.drew = .ok (.string ⟨#[]⟩) w.drew := by
    first | kernel_rfl | simp [Builtin.unsafeString_, go_sem]
  go_enter Tryz.func62, Tryz.ntmps62
  go_wp2
  go_region
  all_goals (go_wp2; go_ret; exact ⟨rfl, (Below.refl _ w).drew⟩)
set_option maxHeartbeats 4000000 in
set_option maxRecDepth 20000 in
theorem text_none (v : Value) (w : World) (h : TV w v []) : Calls Tryz.prog 37 #[v] w fun e w' => e = .returned (.string ⟨#[]⟩) ∧ Below w.heap.size w w' := by
  obtain ⟨a, n, c, rfl, hc, h⟩ := h
  obtain rfl : 0 = n := h.len
  clear h
  have h0 : Lib.IsBuilder 131 5 w.heap.size w.heap.size (Lib.byteCells []) (w.alloc (.cells #[.pointer none, .slice none 0 0] 131)) := Lib.fresh_isBuilder 131 5 w
  have HI0 : Hid _ := h0
  have HB0 : Hid _ := below1 w (.cells #[.pointer none, .slice none 0 0] 131)
  clear h0
  go_enter Tryz.func37, Tryz.ntmps37
  go_wp2_with fail
  refine wp_loop_rounds 1 ?_
  rw [rounds_succ]
  go_wp2_with fail
  refine (string_none w.heap.size _ (heap_alloc_new w _)).mono ?_
  rintro e WZ ⟨rfl, hb⟩
  have HBZ : Hid (Below w.heap.size w WZ) := HB0.out.trans (hb.mono HB0.out.size)
  clear hb
  go_wp2_with fail
  go_ret
  exact ⟨rfl, HBZ.out⟩
end Go.Proofs.YtijeakggeichcaaGreatDoor
