/- Text of the laws' own match, Clone, Whole, lives. Conditions: the terms can be read; the table of trailing zeros holds 4 at its fifteenth place. -/
import Derived.Test.YtpinhnkceaephaaDoorMI
namespace Go.Proofs.YtpinhnkceaephaaDoor
open Go.RowKit
def tA : Tm := ⟨3, 2048#64, 65535#64⟩
def tB : Tm := ⟨19, 80#64, 65535#64⟩
theorem drew_heap (w : World) : w.drew.heap = w.heap := rfl
set_option linter.unusedSimpArgs false in
set_option maxHeartbeats 4000000 in
set_option maxRecDepth 20000 in
theorem text_two (v : Value) (w : World) (h : TV w v [tA, tB]) (htab : w.cell? ⟨2, 15, none⟩ = some (.int .u8 4)) :
    Calls Tryd.prog 23 #[v] w fun e w' => e = .returned (.string ⟨#[101, 116, 104, 46, 116, 121, 112, 101, 32, 61, 61, 32, 48, 120, 56, 48, 48, 32, 38, 38, 32, 116, 112, 46, 100, 115, 116, 32, 61, 61, 32, 48, 120, 53, 48]⟩) ∧ Below w.heap.size w w' := by
  obtain ⟨a, n, c, rfl, hc, h⟩ := h
  obtain rfl : 2 = n := h.len
  have H : Hid _ := h
  have HT : Hid _ := htab
  have hgl : 2 < w.heap.size := cell_lt htab
  clear h htab
  have TAB : Hid (∀ W, Below w.heap.size w W → W.cell? ⟨2, 15, none⟩ = some (.int .u8 4)) := fun W hb => (hb.cell (p := ⟨2, 15, none⟩) hgl).trans HT.out
  go_enter Tryd.func23, Tryd.ntmps23
  have h0 : Lib.IsBuilder 69 5 w.heap.size w.heap.size (Lib.byteCells []) (w.alloc (.cells #[.pointer none, .slice none 0 0] 69)) := Lib.fresh_isBuilder 69 5 w
  have HI0 : Hid _ := h0
  have HB0 : Hid _ := below1 w (.cells #[.pointer none, .slice none 0 0] 69)
  clear h0
  go_wp2_with fail
  refine wp_loop_rounds 3 ?_
  obtain ⟨b0, o0, rfl, c0', c1', c2', hbl0⟩ := H.out.at (k := 0) (t := tA) rfl
  have c0 : w.cell? ⟨b0, o0, none⟩ = some (.int .i64 3) := c0'
  have c1 : w.cell? ⟨b0, o0 + 1, none⟩ = some (.int .u64 2048) := c1'
  have c2 : w.cell? ⟨b0, o0 + 2, none⟩ = some (.int .u64 65535) := c2'
  clear c0' c1' c2'
  rw [rounds_succ]
  have HZ1 : Hid _ := two_last w (.cells #[.pointer none, .slice none 0 0] 69) (.cells #[.int .i64 3, .int .u64 2048, .int .u64 65535] 55)
  have HI1 : Hid _ := isB_below HI0.out (below1 (w.alloc (.cells #[.pointer none, .slice none 0 0] 69)) (.cells #[.int .i64 3, .int .u64 2048, .int .u64 65535] 55))
  have HB1 : Hid _ := HB0.out.trans ((below1 (w.alloc (.cells #[.pointer none, .slice none 0 0] 69)) (.cells #[.int .i64 3, .int .u64 2048, .int .u64 65535] 55)).mono HB0.out.size)
  clear HI0 HB0
  have d0 : True := trivial
  have d1 : True := trivial
  have d2 : True := trivial
  go_wp2_with fail
  refine (nameOf_any 3 (by omega) (by omega) _).mono ?_
  rintro e W2 ⟨rfl, hb⟩
  have HI2 : Hid _ := isB_below HI1.out hb
  have HB2 : Hid (Below w.heap.size w W2) := HB1.out.trans (hb.mono HB1.out.size)
  have HZ2 : Hid _ := (Kept.below hb) _ _ HZ1.out
  clear hb d0 d1 d2 HI1 HB1 HZ1
  have d0 := cell_row HZ2.out 0
  have d1 := cell_row HZ2.out 1
  have d2 := cell_row HZ2.out 2
  simp only [List.getElem?_toArray, List.getElem?_cons_zero, List.getElem?_cons_succ] at d0 d1 d2
  go_wp2_with fail
  refine (writeString_any w.heap.size w.heap.size [] (fName 3) _ HI2.out (by decide +kernel) HB2.out.size).mono ?_
  rintro e W3 ⟨rfl, hi, hb, hk⟩
  have HI3 : Hid (Lib.IsBuilder 69 5 w.heap.size w.heap.size (Lib.byteCells [101, 116, 104, 46, 116, 121, 112, 101]) W3) := hi
  have HB3 : Hid (Below w.heap.size w W3) := HB2.out.trans hb
  have HZ3 : Hid _ := hk _ _ HZ2.out
  clear hi hb hk d0 d1 d2 HI2 HB2 HZ2
  have d0 := cell_row HZ3.out 0
  have d1 := cell_row HZ3.out 1
  have d2 := cell_row HZ3.out 2
  simp only [List.getElem?_toArray, List.getElem?_cons_zero, List.getElem?_cons_succ] at d0 d1 d2
  go_wp2_with fail
  refine (writeString_any w.heap.size w.heap.size [101, 116, 104, 46, 116, 121, 112, 101] ⟨#[32, 61, 61, 32]⟩ _ HI3.out (by decide +kernel) HB3.out.size).mono ?_
  rintro e W4 ⟨rfl, hi, hb, hk⟩
  have HI4 : Hid (Lib.IsBuilder 69 5 w.heap.size w.heap.size (Lib.byteCells [101, 116, 104, 46, 116, 121, 112, 101, 32, 61, 61, 32]) W4) := hi
  have HB4 : Hid (Below w.heap.size w W4) := HB3.out.trans hb
  have HZ4 : Hid _ := hk _ _ HZ3.out
  clear hi hb hk d0 d1 d2 HI3 HB3 HZ3
  have d0 := cell_row HZ4.out 0
  have d1 := cell_row HZ4.out 1
  have d2 := cell_row HZ4.out 2
  simp only [List.getElem?_toArray, List.getElem?_cons_zero, List.getElem?_cons_succ] at d0 d1 d2
  go_wp2_with fail
  refine (hex_2048 _ (TAB.out _ HB4.out)).mono ?_
  rintro e W5 ⟨rfl, hb⟩
  have HI5 : Hid _ := isB_below HI4.out hb
  have HB5 : Hid (Below w.heap.size w W5) := HB4.out.trans (hb.mono HB4.out.size)
  have HZ5 : Hid _ := (Kept.below hb) _ _ HZ4.out
  clear hb d0 d1 d2 HI4 HB4 HZ4
  have d0 := cell_row HZ5.out 0
  have d1 := cell_row HZ5.out 1
  have d2 := cell_row HZ5.out 2
  simp only [List.getElem?_toArray, List.getElem?_cons_zero, List.getElem?_cons_succ] at d0 d1 d2
  go_wp2_with fail
  refine (writeString_any w.heap.size w.heap.size [101, 116, 104, 46, 116, 121, 112, 101, 32, 61, 61, 32] ⟨#[48, 120, 56, 48, 48]⟩ _ HI5.out (by decide +kernel) HB5.out.size).mono ?_
  rintro e W6 ⟨rfl, hi, hb, hk⟩
  have HI6 : Hid (Lib.IsBuilder 69 5 w.heap.size w.heap.size (Lib.byteCells [101, 116, 104, 46, 116, 121, 112, 101, 32, 61, 61, 32, 48, 120, 56, 48, 48]) W6) := hi
  have HB6 : Hid (Below w.heap.size w W6) := HB5.out.trans hb
  have HZ6 : Hid _ := hk _ _ HZ5.out
  clear hi hb hk d0 d1 d2 HI5 HB5 HZ5
  have d0 := cell_row HZ6.out 0
  have d1 := cell_row HZ6.out 1
  have d2 := cell_row HZ6.out 2
  simp only [List.getElem?_toArray, List.getElem?_cons_zero, List.getElem?_cons_succ] at d0 d1 d2
  have KC0 : Hid (∀ W, Below W6.heap.size W6 W → W.cell? ⟨(w.heap.size + 1), 0, none⟩ = some (.int .i64 3) ∧ W.cell? ⟨(w.heap.size + 1), 2, none⟩ = some (.int .u64 65535) ∧ Below W6.heap.size W6 W) := fun W hb => by
    have hz := (Kept.below hb) _ _ HZ6.out
    exact ⟨cell_row hz 0, cell_row hz 2, hb⟩
  have ha0 : abN 3 = 65535 := by decide +kernel
  have HA0 : Hid _ := ha0
  clear ha0
  go_wp2_with fail
  refine wp_region_held_drew (S := (fun W => W.cell? ⟨(w.heap.size + 1), 0, none⟩ = some (.int .i64 3) ∧ W.cell? ⟨(w.heap.size + 1), 2, none⟩ = some (.int .u64 65535) ∧ Below W6.heap.size W6 W)) (by kernel_rfl) ?_ (fun hHeld => ?_)
  · exact KC0.out _ (Below.refl _ _).drew
  refine wpAnyH_take (i := 0) (v := ?_) rfl (by kernel_rfl) (by kernel_rfl) (by kernel_rfl) (fun _ _ _ h => h) (Or.inl ⟨by rfl, ?_⟩) (by assumption) ?_
  rotate_left
  · (intro w hSw; (try dsimp only at hSw); go_simp; try with_reducible rfl)
  try simp only [List.getElem_toArray, List.getElem_cons_zero, List.getElem_cons_succ, Act.put, List.setIfInBounds_toArray, List.set_cons_zero, List.set_cons_succ]
  refine wpAnyH_take (i := 1) (v := ?_) rfl (by kernel_rfl) (by kernel_rfl) (by kernel_rfl) (fun _ _ _ h => h) (Or.inl ⟨by rfl, ?_⟩) (by assumption) ?_
  rotate_left
  · (intro w hSw; (try dsimp only at hSw); go_simp; try with_reducible rfl)
  try simp only [List.getElem_toArray, List.getElem_cons_zero, List.getElem_cons_succ, Act.put, List.setIfInBounds_toArray, List.set_cons_zero, List.set_cons_succ]
  refine wpAnyH_take (i := 2) (v := ?_) rfl (by kernel_rfl) (by kernel_rfl) (by kernel_rfl) (fun _ _ _ h => h) (Or.inl ⟨by rfl, ?_⟩) (by assumption) ?_
  rotate_left
  · (intro w hSw; (try dsimp only at hSw); go_simp; try with_reducible rfl)
  try simp only [List.getElem_toArray, List.getElem_cons_zero, List.getElem_cons_succ, Act.put, List.setIfInBounds_toArray, List.set_cons_zero, List.set_cons_succ]
  refine wpAnyH_take (i := 3) (v := ?_) rfl (by kernel_rfl) (by kernel_rfl) (by kernel_rfl) (fun _ _ _ h => h) (Or.inl ⟨by rfl, ?_⟩) (by assumption) ?_
  rotate_left
  · (intro w hSw; (try dsimp only at hSw); go_simp; try with_reducible rfl)
  try simp only [List.getElem_toArray, List.getElem_cons_zero, List.getElem_cons_succ, Act.put, List.setIfInBounds_toArray, List.set_cons_zero, List.set_cons_succ]
  refine wpAnyH_ready (rs := [4]) (by kernel_rfl) (by simp) ?_
  refine AllReadyH.cons (o := _) rfl (fun K hK => ?_) AllReadyH.nil
  go_simp
  refine (allBits_any _ _).mono ?_
  rw [HA0.out]
  rintro e W7 ⟨rfl, hb⟩
  have HW : Hid (Below W6.heap.size W6 W7) := hHeld.2.2.trans (hb.mono hHeld.2.2.size)
  have HI7 : Hid _ := isB_below HI6.out HW.out
  have HB7 : Hid (Below w.heap.size w W7) := HB6.out.trans (HW.out.mono HB6.out.size)
  go_wp2_with fail
  refine hK.out _ _ (KC0.out _ HW.out) (fun hHeld2 => ?_)
  clear hK K hb hHeld d0 d1 d2 HI6 HB6 HZ6
  try simp only [List.getElem_toArray, List.getElem_cons_zero, List.getElem_cons_succ, Act.put, List.setIfInBounds_toArray, List.set_cons_zero, List.set_cons_succ]
  refine wpAnyH_take (i := 5) (v := ?_) rfl (by kernel_rfl) (by kernel_rfl) (by kernel_rfl) (fun _ _ _ h => h) (Or.inl ⟨by rfl, ?_⟩) (by assumption) ?_
  rotate_left
  · (intro w hSw; (try dsimp only at hSw); go_simp; try with_reducible rfl)
  try simp only [List.getElem_toArray, List.getElem_cons_zero, List.getElem_cons_succ, Act.put, List.setIfInBounds_toArray, List.set_cons_zero, List.set_cons_succ]
  refine wpAnyH_done (by kernel_rfl) ?_ _
  clear hHeld2 KC0 HW c0 c1 c2
  go_wp2_with fail
  obtain ⟨_, _, e_, c0', c1', c2', hbl1⟩ := (H.out.below HB7.out).at (k := 1) (t := tB) rfl
  cases e_
  have c0 : W7.cell? ⟨b0, o0 + 3, none⟩ = some (.int .i64 19) := c0'
  have c1 : W7.cell? ⟨b0, o0 + 3 + 1, none⟩ = some (.int .u64 80) := c1'
  have c2 : W7.cell? ⟨b0, o0 + 3 + 2, none⟩ = some (.int .u64 65535) := c2'
  clear c0' c1' c2'
  rw [rounds_succ]
  have HZ8 : Hid _ := heap_alloc_new W7 (.cells #[.int .i64 19, .int .u64 80, .int .u64 65535] 55)
  have HI8 : Hid _ := isB_below HI7.out (below1 W7 (.cells #[.int .i64 19, .int .u64 80, .int .u64 65535] 55))
  have HB8 : Hid _ := HB7.out.trans ((below1 W7 (.cells #[.int .i64 19, .int .u64 80, .int .u64 65535] 55)).mono HB7.out.size)
  clear HI7 HB7
  have d0 : True := trivial
  have d1 : True := trivial
  have d2 : True := trivial
  go_wp2_with fail
  refine (writeString_any w.heap.size w.heap.size [101, 116, 104, 46, 116, 121, 112, 101, 32, 61, 61, 32, 48, 120, 56, 48, 48] ⟨#[32, 38, 38, 32]⟩ _ HI8.out (by decide +kernel) HB8.out.size).mono ?_
  rintro e W9 ⟨rfl, hi, hb, hk⟩
  have HI9 : Hid (Lib.IsBuilder 69 5 w.heap.size w.heap.size (Lib.byteCells [101, 116, 104, 46, 116, 121, 112, 101, 32, 61, 61, 32, 48, 120, 56, 48, 48, 32, 38, 38, 32]) W9) := hi
  have HB9 : Hid (Below w.heap.size w W9) := HB8.out.trans hb
  have HZ9 : Hid _ := hk _ _ HZ8.out
  clear hi hb hk d0 d1 d2 HI8 HB8 HZ8
  have d0 := cell_row HZ9.out 0
  have d1 := cell_row HZ9.out 1
  have d2 := cell_row HZ9.out 2
  simp only [List.getElem?_toArray, List.getElem?_cons_zero, List.getElem?_cons_succ] at d0 d1 d2
  go_wp2_with fail
  refine (nameOf_any 19 (by omega) (by omega) _).mono ?_
  rintro e W10 ⟨rfl, hb⟩
  have HI10 : Hid _ := isB_below HI9.out hb
  have HB10 : Hid (Below w.heap.size w W10) := HB9.out.trans (hb.mono HB9.out.size)
  have HZ10 : Hid _ := (Kept.below hb) _ _ HZ9.out
  clear hb d0 d1 d2 HI9 HB9 HZ9
  have d0 := cell_row HZ10.out 0
  have d1 := cell_row HZ10.out 1
  have d2 := cell_row HZ10.out 2
  simp only [List.getElem?_toArray, List.getElem?_cons_zero, List.getElem?_cons_succ] at d0 d1 d2
  go_wp2_with fail
  refine (writeString_any w.heap.size w.heap.size [101, 116, 104, 46, 116, 121, 112, 101, 32, 61, 61, 32, 48, 120, 56, 48, 48, 32, 38, 38, 32] (fName 19) _ HI10.out (by decide +kernel) HB10.out.size).mono ?_
  rintro e W11 ⟨rfl, hi, hb, hk⟩
  have HI11 : Hid (Lib.IsBuilder 69 5 w.heap.size w.heap.size (Lib.byteCells [101, 116, 104, 46, 116, 121, 112, 101, 32, 61, 61, 32, 48, 120, 56, 48, 48, 32, 38, 38, 32, 116, 112, 46, 100, 115, 116]) W11) := hi
  have HB11 : Hid (Below w.heap.size w W11) := HB10.out.trans hb
  have HZ11 : Hid _ := hk _ _ HZ10.out
  clear hi hb hk d0 d1 d2 HI10 HB10 HZ10
  have d0 := cell_row HZ11.out 0
  have d1 := cell_row HZ11.out 1
  have d2 := cell_row HZ11.out 2
  simp only [List.getElem?_toArray, List.getElem?_cons_zero, List.getElem?_cons_succ] at d0 d1 d2
  go_wp2_with fail
  refine (writeString_any w.heap.size w.heap.size [101, 116, 104, 46, 116, 121, 112, 101, 32, 61, 61, 32, 48, 120, 56, 48, 48, 32, 38, 38, 32, 116, 112, 46, 100, 115, 116] ⟨#[32, 61, 61, 32]⟩ _ HI11.out (by decide +kernel) HB11.out.size).mono ?_
  rintro e W12 ⟨rfl, hi, hb, hk⟩
  have HI12 : Hid (Lib.IsBuilder 69 5 w.heap.size w.heap.size (Lib.byteCells [101, 116, 104, 46, 116, 121, 112, 101, 32, 61, 61, 32, 48, 120, 56, 48, 48, 32, 38, 38, 32, 116, 112, 46, 100, 115, 116, 32, 61, 61, 32]) W12) := hi
  have HB12 : Hid (Below w.heap.size w W12) := HB11.out.trans hb
  have HZ12 : Hid _ := hk _ _ HZ11.out
  clear hi hb hk d0 d1 d2 HI11 HB11 HZ11
  have d0 := cell_row HZ12.out 0
  have d1 := cell_row HZ12.out 1
  have d2 := cell_row HZ12.out 2
  simp only [List.getElem?_toArray, List.getElem?_cons_zero, List.getElem?_cons_succ] at d0 d1 d2
  go_wp2_with fail
  refine (hex_80 _ (TAB.out _ HB12.out)).mono ?_
  rintro e W13 ⟨rfl, hb⟩
  have HI13 : Hid _ := isB_below HI12.out hb
  have HB13 : Hid (Below w.heap.size w W13) := HB12.out.trans (hb.mono HB12.out.size)
  have HZ13 : Hid _ := (Kept.below hb) _ _ HZ12.out
  clear hb d0 d1 d2 HI12 HB12 HZ12
  have d0 := cell_row HZ13.out 0
  have d1 := cell_row HZ13.out 1
  have d2 := cell_row HZ13.out 2
  simp only [List.getElem?_toArray, List.getElem?_cons_zero, List.getElem?_cons_succ] at d0 d1 d2
  go_wp2_with fail
  refine (writeString_any w.heap.size w.heap.size [101, 116, 104, 46, 116, 121, 112, 101, 32, 61, 61, 32, 48, 120, 56, 48, 48, 32, 38, 38, 32, 116, 112, 46, 100, 115, 116, 32, 61, 61, 32] ⟨#[48, 120, 53, 48]⟩ _ HI13.out (by decide +kernel) HB13.out.size).mono ?_
  rintro e W14 ⟨rfl, hi, hb, hk⟩
  have HI14 : Hid (Lib.IsBuilder 69 5 w.heap.size w.heap.size (Lib.byteCells [101, 116, 104, 46, 116, 121, 112, 101, 32, 61, 61, 32, 48, 120, 56, 48, 48, 32, 38, 38, 32, 116, 112, 46, 100, 115, 116, 32, 61, 61, 32, 48, 120, 53, 48]) W14) := hi
  have HB14 : Hid (Below w.heap.size w W14) := HB13.out.trans hb
  have HZ14 : Hid _ := hk _ _ HZ13.out
  clear hi hb hk d0 d1 d2 HI13 HB13 HZ13
  have d0 := cell_row HZ14.out 0
  have d1 := cell_row HZ14.out 1
  have d2 := cell_row HZ14.out 2
  simp only [List.getElem?_toArray, List.getElem?_cons_zero, List.getElem?_cons_succ] at d0 d1 d2
  have KC1 : Hid (∀ W, Below W14.heap.size W14 W → W.cell? ⟨W7.heap.size, 0, none⟩ = some (.int .i64 19) ∧ W.cell? ⟨W7.heap.size, 2, none⟩ = some (.int .u64 65535) ∧ Below W14.heap.size W14 W) := fun W hb => by
    have hz := (Kept.below hb) _ _ HZ14.out
    exact ⟨cell_row hz 0, cell_row hz 2, hb⟩
  have ha1 : abN 19 = 65535 := by decide +kernel
  have HA1 : Hid _ := ha1
  clear ha1
  go_wp2_with fail
  refine wp_region_held_drew (S := (fun W => W.cell? ⟨W7.heap.size, 0, none⟩ = some (.int .i64 19) ∧ W.cell? ⟨W7.heap.size, 2, none⟩ = some (.int .u64 65535) ∧ Below W14.heap.size W14 W)) (by kernel_rfl) ?_ (fun hHeld => ?_)
  · exact KC1.out _ (Below.refl _ _).drew
  refine wpAnyH_take (i := 0) (v := ?_) rfl (by kernel_rfl) (by kernel_rfl) (by kernel_rfl) (fun _ _ _ h => h) (Or.inl ⟨by rfl, ?_⟩) (by assumption) ?_
  rotate_left
  · (intro w hSw; (try dsimp only at hSw); go_simp; try with_reducible rfl)
  try simp only [List.getElem_toArray, List.getElem_cons_zero, List.getElem_cons_succ, Act.put, List.setIfInBounds_toArray, List.set_cons_zero, List.set_cons_succ]
  refine wpAnyH_take (i := 1) (v := ?_) rfl (by kernel_rfl) (by kernel_rfl) (by kernel_rfl) (fun _ _ _ h => h) (Or.inl ⟨by rfl, ?_⟩) (by assumption) ?_
  rotate_left
  · (intro w hSw; (try dsimp only at hSw); go_simp; try with_reducible rfl)
  try simp only [List.getElem_toArray, List.getElem_cons_zero, List.getElem_cons_succ, Act.put, List.setIfInBounds_toArray, List.set_cons_zero, List.set_cons_succ]
  refine wpAnyH_take (i := 2) (v := ?_) rfl (by kernel_rfl) (by kernel_rfl) (by kernel_rfl) (fun _ _ _ h => h) (Or.inl ⟨by rfl, ?_⟩) (by assumption) ?_
  rotate_left
  · (intro w hSw; (try dsimp only at hSw); go_simp; try with_reducible rfl)
  try simp only [List.getElem_toArray, List.getElem_cons_zero, List.getElem_cons_succ, Act.put, List.setIfInBounds_toArray, List.set_cons_zero, List.set_cons_succ]
  refine wpAnyH_take (i := 3) (v := ?_) rfl (by kernel_rfl) (by kernel_rfl) (by kernel_rfl) (fun _ _ _ h => h) (Or.inl ⟨by rfl, ?_⟩) (by assumption) ?_
  rotate_left
  · (intro w hSw; (try dsimp only at hSw); go_simp; try with_reducible rfl)
  try simp only [List.getElem_toArray, List.getElem_cons_zero, List.getElem_cons_succ, Act.put, List.setIfInBounds_toArray, List.set_cons_zero, List.set_cons_succ]
  refine wpAnyH_ready (rs := [4]) (by kernel_rfl) (by simp) ?_
  refine AllReadyH.cons (o := _) rfl (fun K hK => ?_) AllReadyH.nil
  go_simp
  refine (allBits_any _ _).mono ?_
  rw [HA1.out]
  rintro e W15 ⟨rfl, hb⟩
  have HW : Hid (Below W14.heap.size W14 W15) := hHeld.2.2.trans (hb.mono hHeld.2.2.size)
  have HI15 : Hid _ := isB_below HI14.out HW.out
  have HB15 : Hid (Below w.heap.size w W15) := HB14.out.trans (HW.out.mono HB14.out.size)
  go_wp2_with fail
  refine hK.out _ _ (KC1.out _ HW.out) (fun hHeld2 => ?_)
  clear hK K hb hHeld d0 d1 d2 HI14 HB14 HZ14
  try simp only [List.getElem_toArray, List.getElem_cons_zero, List.getElem_cons_succ, Act.put, List.setIfInBounds_toArray, List.set_cons_zero, List.set_cons_succ]
  refine wpAnyH_take (i := 5) (v := ?_) rfl (by kernel_rfl) (by kernel_rfl) (by kernel_rfl) (fun _ _ _ h => h) (Or.inl ⟨by rfl, ?_⟩) (by assumption) ?_
  rotate_left
  · (intro w hSw; (try dsimp only at hSw); go_simp; try with_reducible rfl)
  try simp only [List.getElem_toArray, List.getElem_cons_zero, List.getElem_cons_succ, Act.put, List.setIfInBounds_toArray, List.set_cons_zero, List.set_cons_succ]
  refine wpAnyH_done (by kernel_rfl) ?_ _
  clear hHeld2 KC1 HW c0 c1 c2
  go_wp2_with fail
  rw [rounds_succ]
  go_wp2_with fail
  refine (string_any w.heap.size w.heap.size [101, 116, 104, 46, 116, 121, 112, 101, 32, 61, 61, 32, 48, 120, 56, 48, 48, 32, 38, 38, 32, 116, 112, 46, 100, 115, 116, 32, 61, 61, 32, 48, 120, 53, 48] _ HI15.out (by simp)).mono ?_
  rintro e WZ ⟨rfl, hb⟩
  have HBZ : Hid (Below w.heap.size w WZ) := HB15.out.trans hb
  clear hb
  go_wp2_with fail
  go_ret
  exact ⟨rfl, HBZ.out⟩
end Go.Proofs.YtpinhnkceaephaaDoor
