/- Texts of the two shapes that the laws' lives has. Condition: the table of trailing zeros holds 4 at its fifteenth place. -/
import Derived.Test.YtnahhmcmahbnkaaGreatDoorGQCtoQF
import Derived.Handy
import Derived.Laws.BytesArg
import Derived.Maps.AppendAt
import Derived.OwnWalk
import Derived.Lib.Hide
namespace Go.Proofs.YtnahhmcmahbnkaaGreatDoor
open Go.RowKit
set_option maxRecDepth 20000 in
set_option maxHeartbeats 1000000 in
theorem formatBits_0 (w : World) (htab : w.cell? ⟨2, 15, none⟩ = some (.int .u8 4)) : Calls Tryz.prog 188 #[.slice none 0 0, .int .u64 0, .int .i64 16, .bool false, .bool false] w fun e w' => e = .returned (.tuple #[.slice none 0 0, .string ⟨#[48]⟩]) ∧ Below w.heap.size w w' := by
  have hlt : 2 < w.heap.size := cell_lt htab
  have HT : Hid _ := htab
  clear htab
  go_enter Tryz.func188, Tryz.ntmps188
  go_wp2_with fail
  refine (pow2_16 _).mono ?_
  rintro e w' ⟨rfl, rfl⟩
  go_wp2_with fail
  refine (tz_16 _ ((World.cell?_alloc_lt (a := ⟨2, 15, none⟩) _ _ hlt).trans HT.out)).mono ?_
  rintro e w' ⟨rfl, rfl⟩
  go_wp2_with fail
  go_rounds 2
  rw [run_convert_bytes_arg (P := Tryz.prog) _ 126 5 Tryz.underlying126 Tryz.underlying5 w.heap.size 64 1 1 [48] rfl ?hc 9 Tryz.underlying9]
  case hc =>
    intro i hi
    rw [World.cell?_alloc_new]
    obtain rfl : i = 0 := by omega
    rfl
  simp only [Result.andThen]
  rw [Oper.upon_value]
  go_wp2
  go_ret2
  exact ⟨rfl, below1 _ _⟩

set_option maxHeartbeats 400000 in
theorem formatUint_0 (w : World) (htab : w.cell? ⟨2, 15, none⟩ = some (.int .u8 4)) : Calls Tryz.prog 104 #[.int .u64 0, .int .i64 16] w fun e w' => e = .returned (.string ⟨#[48]⟩) ∧ Below w.heap.size w w' := by
  have HT : Hid _ := htab
  clear htab
  go_enter Tryz.func104, Tryz.ntmps104
  go_wp2_with fail
  refine (formatBits_0 _ HT.out).mono ?_
  rintro e w' ⟨rfl, hb⟩
  have HB : Hid _ := hb
  clear hb
  go_wp2_with fail
  go_ret
  exact ⟨rfl, HB.out⟩
set_option maxHeartbeats 400000 in
theorem sformatUint_0 (w : World) (htab : w.cell? ⟨2, 15, none⟩ = some (.int .u8 4)) : Calls Tryz.prog 74 #[.int .u64 0, .int .i64 16] w fun e w' => e = .returned (.string ⟨#[48]⟩) ∧ Below w.heap.size w w' := by
  have HT : Hid _ := htab
  clear htab
  go_enter Tryz.func74, Tryz.ntmps74
  go_wp2_with fail
  refine (formatUint_0 _ HT.out).mono ?_
  rintro e w' ⟨rfl, hb⟩
  have HB : Hid _ := hb
  clear hb
  go_wp2_with fail
  go_ret
  exact ⟨rfl, HB.out⟩
set_option maxHeartbeats 400000 in
theorem hex_0 (w : World) (htab : w.cell? ⟨2, 15, none⟩ = some (.int .u8 4)) : Calls Tryz.prog 46 #[.int .u64 0] w fun e w' => e = .returned (.string ⟨#[48, 120, 48]⟩) ∧ Below w.heap.size w w' := by
  have HT : Hid _ := htab
  clear htab
  go_enter Tryz.func46, Tryz.ntmps46
  go_wp2_with fail
  refine (sformatUint_0 _ HT.out).mono ?_
  rintro e w' ⟨rfl, hb⟩
  have HB : Hid _ := hb
  clear hb
  go_wp2_with fail
  go_ret
  exact ⟨rfl, HB.out⟩

/-- The shape of the laws' own rule. -/
def tD : Tm := ⟨11, 0#64, 4294967295#64⟩
theorem drew_heap (w : World) : w.drew.heap = w.heap := rfl
set_option linter.unusedSimpArgs false in
set_option maxHeartbeats 4000000 in
set_option maxRecDepth 20000 in
theorem text_dst (v : Value) (w : World) (h : TV w v [tD]) (htab : w.cell? ⟨2, 15, none⟩ = some (.int .u8 4)) :
    Calls Tryz.prog 25 #[v] w fun e w' => e = .returned (.string ⟨#[105, 112, 52, 46, 100, 115, 116, 32, 61, 61, 32, 48, 120, 48]⟩) ∧ Below w.heap.size w w' := by
  obtain ⟨a, n, c, rfl, hc, h⟩ := h
  obtain rfl : 1 = n := h.len
  have H : Hid _ := h
  have HT : Hid _ := htab
  have hgl : 2 < w.heap.size := cell_lt htab
  clear h htab
  have TAB : Hid (∀ W, Below w.heap.size w W → W.cell? ⟨2, 15, none⟩ = some (.int .u8 4)) := fun W hb => (hb.cell (p := ⟨2, 15, none⟩) hgl).trans HT.out
  go_enter Tryz.func25, Tryz.ntmps25
  have h0 : Lib.IsBuilder 128 5 w.heap.size w.heap.size (Lib.byteCells []) (w.alloc (.cells #[.pointer none, .slice none 0 0] 128)) := Lib.fresh_isBuilder 128 5 w
  have HI0 : Hid _ := h0
  have HB0 : Hid _ := below1 w (.cells #[.pointer none, .slice none 0 0] 128)
  clear h0
  go_wp2_with fail
  refine wp_loop_rounds 2 ?_
  obtain ⟨b0, o0, rfl, c0', c1', c2', hbl0⟩ := H.out.at (k := 0) (t := tD) rfl
  have c0 : w.cell? ⟨b0, o0, none⟩ = some (.int .i64 11) := c0'
  have c1 : w.cell? ⟨b0, o0 + 1, none⟩ = some (.int .u64 0) := c1'
  have c2 : w.cell? ⟨b0, o0 + 2, none⟩ = some (.int .u64 4294967295) := c2'
  clear c0' c1' c2'
  rw [rounds_succ]
  have HZ1 : Hid _ := two_last w (.cells #[.pointer none, .slice none 0 0] 128) (.cells #[.int .i64 11, .int .u64 0, .int .u64 4294967295] 118)
  have HI1 : Hid _ := isB_below HI0.out (below1 (w.alloc (.cells #[.pointer none, .slice none 0 0] 128)) (.cells #[.int .i64 11, .int .u64 0, .int .u64 4294967295] 118))
  have HB1 : Hid _ := HB0.out.trans ((below1 (w.alloc (.cells #[.pointer none, .slice none 0 0] 128)) (.cells #[.int .i64 11, .int .u64 0, .int .u64 4294967295] 118)).mono HB0.out.size)
  clear HI0 HB0
  have d0 : True := trivial
  have d1 : True := trivial
  have d2 : True := trivial
  go_wp2_with fail
  refine (nameOf_any 11 (by omega) (by omega) _).mono ?_
  rintro e W2 ⟨rfl, hb⟩
  have HI2 : Hid _ := isB_below HI1.out hb
  have HB2 : Hid (Below w.heap.size w W2) := HB1.out.trans (hb.mono HB1.out.size)
  have HZ2 : Hid _ := (Kept.below hb) _ _ HZ1.out
  clear hb d0 d1 d2 HI1 HB1 HZ1
  have d0 := cell_row HZ2.out 0
  have d1 := cell_row HZ2.out 1
  have d2 := cell_row HZ2.out 2
  simp only [List.getElem?_toArray, List.getElem?_cons_zero, List.getElem?_cons_succ] at d0 d1 d2
  go_wp2_with fail
  refine (writeString_any w.heap.size w.heap.size [] (fName 11) _ HI2.out (by decide +kernel) HB2.out.size).mono ?_
  rintro e W3 ⟨rfl, hi, hb, hk⟩
  have HI3 : Hid (Lib.IsBuilder 128 5 w.heap.size w.heap.size (Lib.byteCells [105, 112, 52, 46, 100, 115, 116]) W3) := hi
  have HB3 : Hid (Below w.heap.size w W3) := HB2.out.trans hb
  have HZ3 : Hid _ := hk _ _ HZ2.out
  clear hi hb hk d0 d1 d2 HI2 HB2 HZ2
  have d0 := cell_row HZ3.out 0
  have d1 := cell_row HZ3.out 1
  have d2 := cell_row HZ3.out 2
  simp only [List.getElem?_toArray, List.getElem?_cons_zero, List.getElem?_cons_succ] at d0 d1 d2
  go_wp2_with fail
  refine (writeString_any w.heap.size w.heap.size [105, 112, 52, 46, 100, 115, 116] ⟨#[32, 61, 61, 32]⟩ _ HI3.out (by decide +kernel) HB3.out.size).mono ?_
  rintro e W4 ⟨rfl, hi, hb, hk⟩
  have HI4 : Hid (Lib.IsBuilder 128 5 w.heap.size w.heap.size (Lib.byteCells [105, 112, 52, 46, 100, 115, 116, 32, 61, 61, 32]) W4) := hi
  have HB4 : Hid (Below w.heap.size w W4) := HB3.out.trans hb
  have HZ4 : Hid _ := hk _ _ HZ3.out
  clear hi hb hk d0 d1 d2 HI3 HB3 HZ3
  have d0 := cell_row HZ4.out 0
  have d1 := cell_row HZ4.out 1
  have d2 := cell_row HZ4.out 2
  simp only [List.getElem?_toArray, List.getElem?_cons_zero, List.getElem?_cons_succ] at d0 d1 d2
  go_wp2_with fail
  refine (hex_0 _ (TAB.out _ HB4.out)).mono ?_
  rintro e W5 ⟨rfl, hb⟩
  have HI5 : Hid _ := isB_below HI4.out hb
  have HB5 : Hid (Below w.heap.size w W5) := HB4.out.trans (hb.mono HB4.out.size)
  have HZ5 : Hid _ := (Kept.below hb) _ _ HZ4.out
  clear hb d0 d1 d2 HI4 HB4 HZ4
  have d0 := cell_row HZ5.out 0
  have d1 := cell_row HZ5.out 1
  have d2 := cell_row HZ5.out 2
  simp only [List.getElem?_toArray, List.getElem?_cons_zero, List.getElem?_cons_succ] at d0 d1 d2
  go_wp2_with fail
  refine (writeString_any w.heap.size w.heap.size [105, 112, 52, 46, 100, 115, 116, 32, 61, 61, 32] ⟨#[48, 120, 48]⟩ _ HI5.out (by decide +kernel) HB5.out.size).mono ?_
  rintro e W6 ⟨rfl, hi, hb, hk⟩
  have HI6 : Hid (Lib.IsBuilder 128 5 w.heap.size w.heap.size (Lib.byteCells [105, 112, 52, 46, 100, 115, 116, 32, 61, 61, 32, 48, 120, 48]) W6) := hi
  have HB6 : Hid (Below w.heap.size w W6) := HB5.out.trans hb
  have HZ6 : Hid _ := hk _ _ HZ5.out
  clear hi hb hk d0 d1 d2 HI5 HB5 HZ5
  have d0 := cell_row HZ6.out 0
  have d1 := cell_row HZ6.out 1
  have d2 := cell_row HZ6.out 2
  simp only [List.getElem?_toArray, List.getElem?_cons_zero, List.getElem?_cons_succ] at d0 d1 d2
  have KC0 : Hid (∀ W, Below W6.heap.size W6 W → W.cell? ⟨(w.heap.size + 1), 0, none⟩ = some (.int .i64 11) ∧ W.cell? ⟨(w.heap.size + 1), 2, none⟩ = some (.int .u64 4294967295) ∧ Below W6.heap.size W6 W) := fun W hb => by
    have hz := (Kept.below hb) _ _ HZ6.out
    exact ⟨cell_row hz 0, cell_row hz 2, hb⟩
  have ha0 : abN 11 = 4294967295 := by decide +kernel
  have HA0 : Hid _ := ha0
  clear ha0
  go_wp2_with fail
  refine wp_region_held_drew (S := (fun W => W.cell? ⟨(w.heap.size + 1), 0, none⟩ = some (.int .i64 11) ∧ W.cell? ⟨(w.heap.size + 1), 2, none⟩ = some (.int .u64 4294967295) ∧ Below W6.heap.size W6 W)) (by kernel_rfl) ?_ (fun hHeld => ?_)
  · exact KC0.out _ (Below.refl _ _).drew
  refine wpAnyH_take (i := 0) (v := ?_) rfl (by kernel_rfl) (by kernel_rfl) (by kernel_rfl) (fun _ _ _ h => h) (Or.inl ⟨by rfl, ?_⟩) (by assumption) ?_
  rotate_left
  · (intro w hSw; (try dsimp only at hSw); go_simp; try with_reducible rfl)
  try simp only [List.getElem_toArray, List.getElem_cons_zero, List.getElem_cons_succ, Act.put, List.setIfInBounds_toArray, List.set_cons_zero, List.set_cons_succ]
  refine wpAnyH_take (i := 1) (v := ?_) rfl (by kernel_rfl) (by kernel_rfl) (by kernel_rfl) (fun _ _ _ h => h) (Or.inl ⟨by rfl, ?_⟩) (by assumption) ?_
  rotate_left
  · (intro w hSw; (try dsimp only at hSw); go_simp; try with_reducible rfl)
  try simp only [List.getElem_toArray, List.getElem_cons_zero, List.getElem_cons_succ, Act.put, List.setIfInBounds_toArray, List.set_cons_zero, List.set_cons_succ]
  refine wpAnyH_take (i := 2) (v := ?_) rfl (by kernel_rfl) (by kernel_rfl) (by kernel_rfl) (fun _ _ _ h => h) (Or.inl ⟨by rfl, ?_⟩) (by assumption) ?_
  rotate_left
  · (intro w hSw; (try dsimp only at hSw); go_simp; try with_reducible rfl)
  try simp only [List.getElem_toArray, List.getElem_cons_zero, List.getElem_cons_succ, Act.put, List.setIfInBounds_toArray, List.set_cons_zero, List.set_cons_succ]
  refine wpAnyH_take (i := 3) (v := ?_) rfl (by kernel_rfl) (by kernel_rfl) (by kernel_rfl) (fun _ _ _ h => h) (Or.inl ⟨by rfl, ?_⟩) (by assumption) ?_
  rotate_left
  · (intro w hSw; (try dsimp only at hSw); go_simp; try with_reducible rfl)
  try simp only [List.getElem_toArray, List.getElem_cons_zero, List.getElem_cons_succ, Act.put, List.setIfInBounds_toArray, List.set_cons_zero, List.set_cons_succ]
  refine wpAnyH_ready (rs := [4]) (by kernel_rfl) (by simp) ?_
  refine AllReadyH.cons (o := _) rfl (fun K hK => ?_) AllReadyH.nil
  go_simp
  refine (allBits_any _ _).mono ?_
  rw [HA0.out]
  rintro e W7 ⟨rfl, hb⟩
  have HW : Hid (Below W6.heap.size W6 W7) := hHeld.2.2.trans (hb.mono hHeld.2.2.size)
  have HI7 : Hid _ := isB_below HI6.out HW.out
  have HB7 : Hid (Below w.heap.size w W7) := HB6.out.trans (HW.out.mono HB6.out.size)
  go_wp2_with fail
  refine hK.out _ _ (KC0.out _ HW.out) (fun hHeld2 => ?_)
  clear hK K hb hHeld d0 d1 d2 HI6 HB6 HZ6
  try simp only [List.getElem_toArray, List.getElem_cons_zero, List.getElem_cons_succ, Act.put, List.setIfInBounds_toArray, List.set_cons_zero, List.set_cons_succ]
  refine wpAnyH_take (i := 5) (v := ?_) rfl (by kernel_rfl) (by kernel_rfl) (by kernel_rfl) (fun _ _ _ h => h) (Or.inl ⟨by rfl, ?_⟩) (by assumption) ?_
  rotate_left
  · (intro w hSw; (try dsimp only at hSw); go_simp; try with_reducible rfl)
  try simp only [List.getElem_toArray, List.getElem_cons_zero, List.getElem_cons_succ, Act.put, List.setIfInBounds_toArray, List.set_cons_zero, List.set_cons_succ]
  refine wpAnyH_done (by kernel_rfl) ?_ _
  clear hHeld2 KC0 HW c0 c1 c2
  go_wp2_with fail
  rw [rounds_succ]
  go_wp2_with fail
  refine (string_any w.heap.size w.heap.size [105, 112, 52, 46, 100, 115, 116, 32, 61, 61, 32, 48, 120, 48] _ HI7.out (by simp)).mono ?_
  rintro e WZ ⟨rfl, hb⟩
  have HBZ : Hid (Below w.heap.size w WZ) := HB7.out.trans hb
  clear hb
  go_wp2_with fail
  go_ret
  exact ⟨rfl, HBZ.out⟩
set_option maxHeartbeats 1000000 in
theorem string_none (b : Nat) (w : World) (h : w.heap[b]? = some (.cells #[.pointer none, .slice none 0 0] 128 (0, 0))) :
    Calls Tryz.prog 48 #[.pointer (some ⟨b, 0, none⟩)] w fun e w' => e = .returned (.string ⟨#[]⟩) ∧ Below w.heap.size w w' := by
  have c1 : w.drew.cell? ⟨b, 1, none⟩ = some (.slice none 0 0) := by
    have : w.drew.heap[b]? = some (.cells #[.pointer none, .slice none 0 0] 128 (0, 0)) := h
    rw [Lib.cell_of_heap this]; rfl
  have hSD : (Builtin.unsafeSliceData_ #[126] 171 #[.slice none 0 0]).run Tryz.prog w.drew = .ok (.pointer none) w.drew := by
    first | kernel_rfl | simp [Builtin.unsafeSliceData_, go_sem]
  have hUS : (Builtin.unsafeString_ #[171, 3] 9 #[.pointer none, .int .i64 0]).run Tryz.prog w.drew = .ok (.string ⟨#[]⟩) w.drew := by
    first | kernel_rfl | simp [Builtin.unsafeString_, go_sem]
  go_enter Tryz.func48, Tryz.ntmps48
  go_wp2
  go_region
  all_goals (go_wp2; go_ret; exact ⟨rfl, (Below.refl _ w).drew⟩)
set_option maxHeartbeats 4000000 in
set_option maxRecDepth 20000 in
theorem text_none (v : Value) (w : World) (h : TV w v []) : Calls Tryz.prog 25 #[v] w fun e w' => e = .returned (.string ⟨#[]⟩) ∧ Below w.heap.size w w' := by
  obtain ⟨a, n, c, rfl, hc, h⟩ := h
  obtain rfl : 0 = n := h.len
  clear h
  have h0 : Lib.IsBuilder 128 5 w.heap.size w.heap.size (Lib.byteCells []) (w.alloc (.cells #[.pointer none, .slice none 0 0] 128)) := Lib.fresh_isBuilder 128 5 w
  have HI0 : Hid _ := h0
  have HB0 : Hid _ := below1 w (.cells #[.pointer none, .slice none 0 0] 128)
  clear h0
  go_enter Tryz.func25, Tryz.ntmps25
  go_wp2_with fail
  refine wp_loop_rounds 1 ?_
  rw [rounds_succ]
  go_wp2_with fail
  refine (string_none w.heap.size _ (heap_alloc_new w _)).mono ?_
  rintro e WZ ⟨rfl, hb⟩
  have HBZ : Hid (Below w.heap.size w WZ) := HB0.out.trans (hb.mono HB0.out.size)
  clear hb
  go_wp2_with fail
  go_ret
  exact ⟨rfl, HBZ.out⟩
end Go.Proofs.YtnahhmcmahbnkaaGreatDoor
/- An entry put into a queue; heap.Push where nothing has to move. Conditions: as said. -/
namespace Go.Proofs.YtnahhmcmahbnkaaGreatDoor
open Go.RowKit
/-- An entry by its cells. -/
abbrev enC (p : Int) (s : Value) (id : Int) (tb : Nat) (at_ : Int) : Array Value := #[.int .i64 p, s, .int .i64 id, .pointer (some ⟨tb, 0, none⟩), .int .i64 at_]
abbrev quC (v : Value) : Array Value := #[v]
theorem infoQ : (Tryz.prog.info? 146).map (fun i => (i.zero, i.size, i.bytes)) = some (some (.pointer none), 1, 8) := by kernel_rfl
theorem run_queue1 (eb : Nat) (w : World) : (Instr.buildSlice 188 1 #[(0, .pointer (some ⟨eb, 0, none⟩))]).run Tryz.prog w = .ok (.slice (some ⟨w.heap.size, 0, none⟩) 1 1) (w.alloc (.cells #[.pointer (some ⟨eb, 0, none⟩)] 146)) := by
  kernel_rfl
theorem run_assert (eb : Nat) (w : World) : (Instr.typeAssert (.iface 146 (.pointer (some ⟨eb, 0, none⟩))) 20 146 false).run Tryz.prog w = .ok (.pointer (some ⟨eb, 0, none⟩)) w := by
  first | kernel_rfl | simp [Instr.typeAssert, go_sem]
theorem own_apart {w : World} {B b : Nat} {e t : TypeId} {v : Value} {n : Nat} {xs : List Value} {C : Array Value} (h : w.ownsRow B e 1 v n xs) (hb : w.heap[b]? = some (.cells C t (0, 0))) (ht : t ≠ e) : v.ownBlock ≠ some b := by
  rcases h.2 with ⟨rfl, _⟩ | ⟨g, cap, cur, rfl, _, hg, _⟩
  · simp [Value.ownBlock]
  · simp only [Value.ownBlock, ne_eq, Option.some.injEq]
    intro e; subst e
    rw [hg] at hb
    simp at hb
    exact ht hb.2.symm
theorem own_apart_map {w : World} {B b : Nat} {e : TypeId} {v : Value} {n : Nat} {xs : List Value} {M : Array MapEntry} {c : Nat} (h : w.ownsRow B e 1 v n xs) (hb : w.heap[b]? = some (.map M c)) : v.ownBlock ≠ some b := by
  rcases h.2 with ⟨rfl, _⟩ | ⟨g, cap, cur, rfl, _, hg, _⟩
  · simp [Value.ownBlock]
  · simp only [Value.ownBlock, ne_eq, Option.some.injEq]
    intro e; subst e
    rw [hg] at hb
    cases hb
theorem own_slice {w : World} {B : Nat} {e : TypeId} {v : Value} {n : Nat} {xs : List Value} (h : w.ownsRow B e 1 v n xs) : ∃ a c, v = .slice a n c := by
  rcases h.2 with ⟨e, rfl⟩ | ⟨g, cap, cur, e, _⟩
  · exact ⟨none, 0, e⟩
  · exact ⟨_, _, e⟩
set_option maxRecDepth 20000 in
set_option maxHeartbeats 1000000 in
theorem qPush_any (qb eb B n : Nat) (hn : n ≤ 100000) (q : Value) (xs : List Value) (p id : Int) (s : Value) (tb : Nat) (pl : Int) (w : World) (h : w.heap[qb]? = some (.cells (quC q) 188 (0, 0))) (he : w.heap[eb]? = some (.cells (enC p s id tb pl) 151 (0, 0))) (hq : w.ownsRow B 146 1 q n xs) (hB : B ≤ w.heap.size) (hBt : B ≤ qb) (hBe : B ≤ eb) :
    Calls Tryz.prog 315 #[.pointer (some ⟨qb, 0, none⟩), .iface 146 (.pointer (some ⟨eb, 0, none⟩))] w fun e w' => e = .returned (.tuple #[]) ∧ ∃ qa qc, w'.heap[qb]? = some (.cells (quC (.slice qa (n + 1) qc)) 188 (0, 0)) ∧ w'.heap[eb]? = some (.cells (enC p s id tb n) 151 (0, 0)) ∧ w'.ownsRow B 146 1 (.slice qa (n + 1) qc) (n + 1) (xs ++ [.pointer (some ⟨eb, 0, none⟩)]) ∧ (∀ g, g < w.heap.size → g ≠ qb → g ≠ eb → some g ≠ q.ownBlock → w'.heap[g]? = w.heap[g]?) ∧ Below B w w' := by
  obtain ⟨i0, hi, hz0, hz1, hz2⟩ := info_parts infoQ
  obtain ⟨qa0, qc0, rfl⟩ := own_slice hq
  have c3 : w.cell? ⟨qb, 0, none⟩ = some (.slice qa0 n qc0) := cell_row h 0
  have f3 := frozen_of_row w _ 0 _ _ h
  have c13 : w.cell? ⟨eb, 4, none⟩ = some (.int .i64 pl) := cell_row he 4
  have f13 := frozen_of_row w _ 4 _ _ he
  have hte : qb ≠ eb := fun e => by subst e; rw [h] at he; cases he
  have hle := lt_of_heap he
  have hlt := lt_of_heap h
  have HA1 : Hid _ := own_apart hq he (by decide)
  have HA2 : Hid _ := own_apart hq h (by decide)
  have hsc : (w.setCell ⟨eb, 4, none⟩ (.int .i64 n)).heap.size = w.heap.size := by simp [World.setCell]
  have hown2 : ((w.setCell ⟨eb, 4, none⟩ (.int .i64 n)).alloc (.cells #[.pointer (some ⟨eb, 0, none⟩)] 146)).ownsRow B 146 1 (.slice qa0 n qc0) n xs := (ownsRow_setCell_other hq HA1.out _).alloc _
  have HOW : Hid _ := hown2
  have HC1 : Hid _ := cell_one_new (w.setCell ⟨eb, 4, none⟩ (.int .i64 n)) (.pointer (some ⟨eb, 0, none⟩)) 146
  have h1c : ∀ u ∈ ([.pointer (some ⟨eb, 0, none⟩)] : List Value), u.oneCell' = true := fun u hu => by simp at hu; subst hu; rfl
  have H1C : Hid _ := h1c
  have hmx : n + 1 ≤ maxLen := by unfold maxLen; omega
  have HMX : Hid _ := hmx
  have hBa : B ≤ ((w.setCell ⟨eb, 4, none⟩ (.int .i64 n)).alloc (.cells #[.pointer (some ⟨eb, 0, none⟩)] 146)).heap.size := by simp [World.setCell]; omega
  have HBA : Hid _ := hBa
  have H : Hid _ := h
  have HE : Hid _ := he
  have hta := run_assert eb
  have hqb := run_queue1 eb
  clear h he hq hown2 h1c hmx hBa
  go_enter Tryz.func315, Tryz.ntmps315
  go_wp2_with (first
    | (at_builtin; refine wpList_append_own_at _ rfl _ _ 188 rfl B 146 i0 (.pointer none) 1 8 Tryz.underlying188 hi hz0 hz1 hz2 rfl (by decide) (.slice qa0 n qc0) n xs rfl HOW.out ⟨w.heap.size, 0, none⟩ 1 1 [.pointer (some ⟨eb, 0, none⟩)] rfl rfl (by first | exact HC1.out | (rw [← hsc]; exact HC1.out)) H1C.out HMX.out (by omega) HBA.out ?_)
    | fail)
  intro v' W1 ho hg _ _
  obtain ⟨qa, qc, rfl⟩ := own_slice ho
  have hs1 : ((w.setCell ⟨eb, 4, none⟩ (.int .i64 n)).alloc (.cells #[.pointer (some ⟨eb, 0, none⟩)] 146)).heap.size = w.heap.size + 1 := by simp [World.setCell]
  have old : ∀ g, g < w.heap.size → g ≠ eb → some g ≠ (Value.slice qa0 n qc0).ownBlock → W1.heap[g]? = w.heap[g]? := fun g hg1 hg2 hg3 =>
    (hg.block g (by omega) hg3).trans ((heap_alloc_old _ _ (by omega)).trans (Below.heap_setCell _ _ _ _ hg2))
  have t1 : W1.heap[qb]? = some (.cells (quC (.slice qa0 n qc0)) 188 (0, 0)) := (old _ hlt hte (fun e => HA2.out e.symm)).trans H.out
  have e1 : W1.heap[eb]? = some (.cells (enC p s id tb n) 151 (0, 0)) := (hg.block eb (by omega) (fun e => HA1.out e.symm)).trans ((heap_alloc_old _ _ (by omega)).trans (row_setCell HE.out 4 _))
  have d3 : W1.cell? ⟨qb, 0, none⟩ = some (.slice qa0 n qc0) := cell_row t1 0
  have g3 := frozen_of_row W1 _ 0 _ _ t1
  have hb9 : Below B w W1 := (((Below.refl B w).setCell hBe _).alloc (by omega) _).grown hg (by omega) (fun k hk => (World.ownsRow.lt HOW.out k hk).1)
  have T1 : Hid _ := t1
  have E1 : Hid _ := e1
  have OLD : Hid _ := old
  have OW : Hid _ := ho
  have HB9 : Hid _ := hb9
  clear ho hg old t1 e1 hb9 c3 f3 c13 f13 hta hqb
  go_wp2
  go_end0
  refine ⟨rfl, qa, qc, row_setCell T1.out 0 _, (Below.heap_setCell _ _ _ _ (fun e => hte e.symm)).trans E1.out, ownsRow_setCell_other OW.out (own_apart OW.out T1.out (by decide)) _, fun g h1 h2 h3 h4 => (Below.heap_setCell _ _ _ _ h2).trans (OLD.out g h1 h3 h4), HB9.out.setCell hBt _⟩
theorem nilchk (ats : Array TypeId) (ty : TypeId) (a : Addr) (s n : String) (W : World) : (Builtin.ssaWrapNilChk_ ats ty #[.pointer (some a), strVal s, strVal n]).run Tryz.prog W = .ok (.pointer (some a)) W := rfl
theorem run_meth (name : String) (f : Nat) (hr0 : (Tryz.prog.info? 186).map (fun i => (i.methods.find? (·.name == name)).map (fun m => (m.path.size, m.func))) = some (some (0, some (f, false)))) (a : Addr) (W : World) (v : Value) (hv : (loadVar 188 a).run Tryz.prog W = .ok v W) : (method 470 186 (.pointer (some a)) name).run Tryz.prog W = .ok (f, v) W := by
  have hr := hr0
  cases hi : Tryz.prog.info? 186 with
  | none => rw [hi] at hr; cases hr
  | some i =>
    rw [hi] at hr
    simp only [Option.map_some, Option.some.injEq] at hr
    cases hm : i.methods.find? (·.name == name) with
    | none => rw [hm] at hr; cases hr
    | some m =>
      rw [hm] at hr
      simp only [Option.map_some, Option.some.injEq, Prod.mk.injEq] at hr
      obtain ⟨hp, hf⟩ := hr
      have hp0 : m.path = #[] := Array.size_eq_zero_iff.1 hp
      have ht : (typeInfo 186).run Tryz.prog W = .ok i W := by simp [typeInfo, hi]
      unfold method
      simp only [Sem.run_bind, ht, Result.andThen_ok, hm, hp0, follow, Sem.run_pure, hf, receiverAt, run_underlying Tryz.underlying186, Place.get, Array.isEmpty_empty, if_true, nilchk, asAddr, hv]
theorem load_queue {a : Addr} {W : World} {v : Value} (h : W.cell? a = some v) : (loadVar 188 a).run Tryz.prog W = .ok v W := by
  simp [go_sem, loadVar, h]
theorem meth_len {a : Addr} {W : World} {v : Value} (h : W.cell? a = some v) : (method 470 186 (.pointer (some a)) "Len").run Tryz.prog W = .ok (313, v) W := run_meth "Len" _ (by kernel_rfl) a W v (load_queue h)
theorem meth_less {a : Addr} {W : World} {v : Value} (h : W.cell? a = some v) : (method 470 186 (.pointer (some a)) "Less").run Tryz.prog W = .ok (314, v) W := run_meth "Less" _ (by kernel_rfl) a W v (load_queue h)
set_option maxHeartbeats 400000 in
theorem qLen_any (a : Option Addr) (n c : Nat) (w : World) : Calls Tryz.prog 313 #[.slice a n c] w fun e w' => e = .returned (.int .i64 n) ∧ w' = w := by
  go_enter Tryz.func313, Tryz.ntmps313
  go_wp2
  go_ret
  exact ⟨rfl, rfl⟩
set_option maxRecDepth 20000 in
set_option maxHeartbeats 1000000 in
theorem up_zero (x : Value) (w : World) : Calls Tryz.prog 112 #[x, .int .i64 0] w fun e w' => e = .returned (.tuple #[]) ∧ w' = w := by
  go_enter Tryz.func112, Tryz.ntmps112
  go_wp2_with fail
  go_loopw [1] (fun i wr => i = .int .i64 0 ∧ wr = w) (fun _ _ => 0)
  case atStart => exact ⟨rfl, rfl⟩
  case round =>
    obtain ⟨rfl, rfl⟩ := hrel
    go_wp2
    go_end0
    exact ⟨rfl, rfl⟩
set_option maxRecDepth 20000 in
set_option maxHeartbeats 1000000 in
theorem hPush_zero (qb eb B : Nat) (q : Value) (p id : Int) (s : Value) (tb : Nat) (pl : Int) (w : World) (h : w.heap[qb]? = some (.cells (quC q) 188 (0, 0))) (he : w.heap[eb]? = some (.cells (enC p s id tb pl) 151 (0, 0))) (hq : w.ownsRow B 146 1 q 0 []) (hB : B ≤ w.heap.size) (hBt : B ≤ qb) (hBe : B ≤ eb) :
    Calls Tryz.prog 90 #[.iface 186 (.pointer (some ⟨qb, 0, none⟩)), .iface 146 (.pointer (some ⟨eb, 0, none⟩))] w fun e w' => e = .returned (.tuple #[]) ∧ ∃ qa qc, w'.heap[qb]? = some (.cells (quC (.slice qa 1 qc)) 188 (0, 0)) ∧ w'.heap[eb]? = some (.cells (enC p s id tb 0) 151 (0, 0)) ∧ w'.ownsRow B 146 1 (.slice qa 1 qc) 1 [.pointer (some ⟨eb, 0, none⟩)] ∧ (∀ g, g < w.heap.size → g ≠ qb → g ≠ eb → some g ≠ q.ownBlock → w'.heap[g]? = w.heap[g]?) ∧ Below B w w' := by
  have HP : Hid _ := qPush_any qb eb B 0 (by omega) q [] p id s tb pl w h he hq hB hBt hBe
  clear h he hq
  go_enter Tryz.func90, Tryz.ntmps90
  go_wp2_with fail
  refine Calls.mono HP.out ?_
  rintro e W1 ⟨rfl, qa, qc, t1, e1, o1, n1, b1⟩
  have c3 : W1.cell? ⟨qb, 0, none⟩ = some (.slice qa 1 qc) := cell_row t1 0
  have K1 : Hid _ := And.intro t1 (And.intro e1 (And.intro o1 (And.intro n1 b1)))
  clear t1 e1 o1 n1 b1
  have hm := meth_len c3
  go_wp2_with fail
  refine (qLen_any qa 1 qc _).mono ?_
  rintro e W2 ⟨rfl, hw2⟩
  rw [hw2]
  clear hw2 hm
  go_wp2_with fail
  refine (up_zero _ _).mono ?_
  rintro e W3 ⟨rfl, hw3⟩
  rw [hw3]
  clear hw3
  go_wp2
  go_end0
  exact ⟨rfl, qa, qc, K1.out⟩
end Go.Proofs.YtnahhmcmahbnkaaGreatDoor
