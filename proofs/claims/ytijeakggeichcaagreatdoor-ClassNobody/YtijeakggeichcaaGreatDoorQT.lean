/- The laws' lives. Conditions: the table of trailing zeros holds 4 at its fifteenth place. -/
import Derived.Test.YtijeakggeichcaaGreatDoorQS
import Derived.Lib.Hide
namespace Go.Proofs.YtijeakggeichcaaGreatDoor
open Go.RowKit
theorem eql_pclass0 (a : Addr) (W : World) : (binOp .eql 24 (.pointer (some a)) (.pointer none)).run Tryz.prog W = .ok (.bool false) W := by
  first | kernel_rfl | simp [binOp, go_sem]
theorem eql_seq (c : Array Value) (W : World) : (binOp .eql 59 (.func (Fn.func 30) #[] c) Value.nilFunc).run Tryz.prog W = .ok (.bool false) W := by
  first | kernel_rfl | simp [binOp, go_sem]
theorem cl_new (w : World) (n : Nat) (h : n ≤ w.heap.size) : Cl (((w.alloc (.map #[] 0)).alloc (.map #[] 0)).alloc (.cells (clC w.heap.size (w.heap.size + 1)) 66)) n (w.heap.size + 1 + 1) w.heap.size (w.heap.size + 1) 0 0 [] [] := by
  have s0 : (w.alloc (.map #[] 0)).heap.size = w.heap.size + 1 := by simp
  have s1 : ((w.alloc (.map #[] 0)).alloc (.map #[] 0)).heap.size = w.heap.size + 1 + 1 := by simp
  refine ⟨?_, ?_, ?_, by omega, h, by omega, fun x hx => by simp at hx, by simp⟩
  · have := heap_alloc_new ((w.alloc (.map #[] 0)).alloc (.map #[] 0)) (.cells (clC w.heap.size (w.heap.size + 1)) 66)
    rw [s1] at this; exact this
  · rw [heap_alloc_old _ _ (by rw [s1]; omega), heap_alloc_old _ _ (by rw [s0]; omega)]
    exact heap_alloc_new _ _
  · rw [heap_alloc_old _ _ (by rw [s1]; omega)]
    have := heap_alloc_new (w.alloc (.map #[] 0)) (.map #[] 0)
    rw [s0] at this; exact this
set_option linter.unusedSimpArgs false in
set_option maxRecDepth 100000 in
set_option maxHeartbeats 8000000 in
theorem lives_any (w : World) (htab : w.cell? ⟨2, 15, none⟩ = some (.int .u8 4)) : Calls Tryz.prog 8 #[] w fun e w' => e = .returned (.bool true) ∧ Below w.heap.size w w' := by
  have HT : Hid _ := htab
  have hgl : 2 < w.heap.size := cell_lt htab
  have HGL : Hid _ := hgl
  clear htab hgl
  have q0 := eql_pclass0
  have q1 := eql_seq
  go_enter Tryz.func8, Tryz.ntmps8
  go_wp2_with fail
  refine Calls.mono (new_any w) ?_
  rintro e W1 ⟨rfl, hw1⟩
  have C1 : Hid (Cl W1 w.heap.size (w.heap.size + 1 + 1) w.heap.size (w.heap.size + 1) 0 0 [] []) := by rw [hw1]; exact cl_new w _ (Nat.le_refl _)
  have B1 : Hid (Below w.heap.size w W1) := by rw [hw1]; exact ((below2 w _ _).alloc (by simp; omega) _)
  clear hw1
  obtain ⟨cb, hcb⟩ : ∃ cb, w.heap.size + 1 + 1 = cb := ⟨_, rfl⟩
  rw [hcb] at C1 ⊢
  clear hcb
  go_wp2_with fail
  refine Calls.mono (all_any _ _) ?_
  rintro e W2 ⟨rfl, hw2⟩
  have C2 : Hid (Cl W2 w.heap.size cb w.heap.size (w.heap.size + 1) 0 0 [] []) := by rw [hw2]; exact C1.out.of (below1 _ _)
  have B2 : Hid (Below w.heap.size w W2) := by rw [hw2]; exact B1.out.alloc B1.out.size _
  clear hw2 C1 B1
  go_wp2_with fail
  have tv1 : TV (W2.alloc (.cells #[.int .i64 11, .int .u64 1, .int .u64 4294967295] 68)) (.slice (some ⟨W2.heap.size, 0, none⟩) 1 1) [tR] := ⟨_, _, _, rfl, Nat.le_refl _, ts_one W2 tR⟩
  have C3 : Hid _ := C2.out.of (below1 W2 (.cells #[.int .i64 11, .int .u64 1, .int .u64 4294967295] 68))
  have B3 : Hid _ := B2.out.alloc B2.out.size (.cells #[.int .i64 11, .int .u64 1, .int .u64 4294967295] 68)
  have hadd := add_new C3.out 10 1 (.slice (some ⟨W2.heap.size, 0, none⟩) 1 1) [tR] txD tv1 (by decide)
    (fun W x hb hx => by
      refine text_dst x W hx ?_
      have := B3.out.trans (hb.mono B3.out.size)
      exact (this.cell (p := ⟨2, 15, none⟩) HGL.out).trans HT.out) rfl B3.out.size rfl chk_R
  refine Calls.mono hadd ?_
  rintro e W4 ⟨rfl, eb, tb, qm, qb, s', sh, mk, qa, qc, le, lt_, lq, lqb, C4', A4', F4', b4⟩
  have C4 : Hid (Cl W4 w.heap.size cb w.heap.size (w.heap.size + 1) 1 1 [(1, .pointer (some ⟨eb, 0, none⟩), 0)] [(txD, .pointer (some ⟨tb, 0, none⟩), 0)]) := C4'
  have A4 : Hid _ := A4'
  have B4 : Hid (Below w.heap.size w W4) := B3.out.trans b4
  have G4 : Hid (qm ≠ w.heap.size ∧ qm ≠ w.heap.size + 1) := by
    have h1 := lt_of_heap C3.out.m
    show _ ∧ _
    constructor <;> omega
  clear hadd tv1 C4' A4' F4' b4 C2 C3 B2 B3
  go_wp2_with fail
  have hadd := add_new C4.out 10 2 (.slice none 0 0) [] ⟨#[]⟩ TV.nil (by decide) (fun W x hb hx => text_none x W hx) (by
      show (if (⟨#[]⟩ : ByteArray) = txD then _ else _) = _
      rw [if_neg tx_ne]; rfl) B4.out.size rfl chk_0
  refine Calls.mono hadd ?_
  rintro e W5 ⟨rfl, eb2, tb2, qm2, qb2, s2', sh2, mk2, qa2, qc2, le2, lt2, lq2, lqb2, C5', A5', F5', b5⟩
  have C5 : Hid (Cl W5 w.heap.size cb w.heap.size (w.heap.size + 1) 2 2 [(1, .pointer (some ⟨eb, 0, none⟩), 0), (2, .pointer (some ⟨eb2, 0, none⟩), 1)] [(txD, .pointer (some ⟨tb, 0, none⟩), 0), (⟨#[]⟩, .pointer (some ⟨tb2, 0, none⟩), 1)]) := C5'
  have B5 : Hid (Below w.heap.size w W5) := B4.out.trans b5
  have hab1 := alone_tup A4.out C4.out.r C4.out.m F5' G4.out.1 G4.out.2 (by decide) (by decide) 0
  have hab2 := alone_tup A5' C5.out.r C5.out.m (W := W5) (fun _ _ _ _ => rfl) (by have := lt_of_heap C4.out.r; omega) (by have := lt_of_heap C4.out.m; omega) (by decide) (by decide) 1
  rw [z0_R] at hab1
  have AB1 : Hid _ := hab1
  have AB2 : Hid _ := hab2
  clear hadd hab1 hab2 C5' A5' F5' b5 A4 C4 B4 G4
  have HF1 : Hid (Calls Tryz.prog 10 #[.pointer (some ⟨cb, 0, none⟩), .agg oneC] W5 fun e w' => (∃ p a n c, e = .returned (.tuple #[.agg (ruC p (.slice a n c) 1), .bool true])) ∧ Below W5.heap.size W5 w') := find_lives C5.out AB1.out.1 AB2.out.1 AB1.out.2.1 AB2.out.2.1 AB1.out.2.2 AB2.out.2.2 true
  go_wp2_with (first
    | refine wpList_build_as rfl 41 _ rfl (oneC.extract 12 20) (by rw [List.map_toArray]; exact built_ip) ?_
    | refine wpList_build_as rfl 45 _ rfl (oneC.extract 0 36) (by rw [List.map_toArray]; exact built_pk) ?_
    | refine wpList_build_as rfl 50 _ rfl oneC (by rw [List.map_toArray]; exact built_st) ?_
    | fail)
  refine Calls.mono HF1.out ?_
  rintro e W6 ⟨⟨p, a, n, c, rfl⟩, hb6⟩
  have C6 : Hid _ := C5.out.of hb6
  have B6 : Hid (Below w.heap.size w W6) := B5.out.trans (hb6.mono B5.out.size)
  have T1 : Hid _ := AB1.out.1.of hb6
  have T2 : Hid _ := AB2.out.1.of hb6
  have E1 : Hid _ := AB1.out.2.1.of hb6
  have E2 : Hid _ := AB2.out.2.1.of hb6
  have F1 : Hid _ := AB1.out.2.2.of hb6
  have F2 : Hid _ := AB2.out.2.2.of hb6
  clear hb6 HF1 AB1 AB2 C5 B5
  have R0 : Hid _ := heap_alloc_new W6 (.cells ruZ 29)
  go_wp2_with (first
    | refine wpList_store_row rfl 29 _ _ rfl W6.heap.size ruZ (ruC p (.slice a n c) 1) 29 rfl rfl R0.out size3r rfl (ru_one _ _ _ rfl) ?_
    | fail)
  intro W7 r7 k7 z7 b7
  have b67 : Below W6.heap.size W6 W7 := (below1 W6 _).trans b7
  have SZ7 : Hid (W7.heap.size = W6.heap.size + 1) := z7
  have R7 : Hid _ := r7
  have C7 : Hid _ := C6.out.of b67
  have B7 : Hid (Below w.heap.size w W7) := B6.out.trans (b67.mono B6.out.size)
  have HF2 : Hid (Calls Tryz.prog 10 #[.pointer (some ⟨cb, 0, none⟩), .agg zeroC] W7 fun e w' => (∃ p a n c, e = .returned (.tuple #[.agg (ruC p (.slice a n c) 2), .bool true])) ∧ Below W7.heap.size W7 w') := find_lives C7.out (TupOk.of T1.out b67) (TupOk.of T2.out b67) (EntAt.of E1.out b67) (EntAt.of E2.out b67) (FirstQ.of F1.out b67) (FirstQ.of F2.out b67) false
  clear r7 k7 z7 b7 b67 C6 B6 T1 T2 E1 E2 F1 F2 R0
  go_wp2_with (first
    | refine wpList_build_as rfl 50 _ rfl zeroC (by rw [List.map_toArray]; exact built_st0) ?_
    | fail)
  refine Calls.mono HF2.out ?_
  rintro e W8 ⟨⟨p2, a2, n2, c2, rfl⟩, hb8⟩
  have C8 : Hid _ := C7.out.of hb8
  have B8 : Hid (Below w.heap.size w W8) := B7.out.trans (hb8.mono B7.out.size)
  have R8 : Hid _ := (hb8.block _ (lt_of_heap R7.out)).trans R7.out
  have L8 : Hid (W6.heap.size < W8.heap.size) := by have := hb8.size; have := SZ7.out; show _ < _; omega
  clear hb8 HF2 C7 B7 R7 SZ7
  have R0 : Hid _ := heap_alloc_new W8 (.cells ruZ 29)
  go_wp2_with (first
    | refine wpList_store_row rfl 29 _ _ rfl W8.heap.size ruZ (ruC p2 (.slice a2 n2 c2) 2) 29 rfl rfl R0.out size3r rfl (ru_one _ _ _ rfl) ?_
    | fail)
  intro W9 r9 k9 z9 b9
  have b89 : Below W8.heap.size W8 W9 := (below1 W8 _).trans b9
  have C9 : Hid _ := C8.out.of b89
  have B9 : Hid (Below w.heap.size w W9) := B8.out.trans (b89.mono B8.out.size)
  have c6 : W9.cell? ⟨W6.heap.size, 2, none⟩ = some (.int .i64 1) := cell_row ((b89.block _ L8.out).trans R8.out) 2
  have c8 : W9.cell? ⟨W8.heap.size, 2, none⟩ = some (.int .i64 2) := cell_row r9 2
  have HL : Hid _ := len_yes C9.out
  have HU : Hid _ := tuples_yes C9.out
  clear r9 k9 z9 b9 b89 C8 B8 R8 L8 R0 C9
  go_wp2_with fail
  refine Calls.mono HL.out ?_
  rintro e WL ⟨rfl, hwl⟩
  rw [hwl]
  clear hwl HL
  go_wp2_with fail
  refine Calls.mono HU.out ?_
  rintro e WU ⟨rfl, hwu⟩
  rw [hwu]
  clear hwu HU
  go_wp2
  go_ret
  exact ⟨rfl, B9.out⟩
end Go.Proofs.YtijeakggeichcaaGreatDoor
