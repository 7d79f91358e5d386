/- Packets as they come in; a State of a packet. Conditions: the packet's cells are of their kinds. -/
import Derived.Test.YtjjehncnjcepkaaCS
namespace Go.Proofs.Ytjjehncnjcepkaa
open Go.RowKit
/-- A packet's cells are of their kinds. -/
structure PSt (ps : Array Value) : Prop where
  size : ps.size = 36
  one : ps.all (·.oneCell') = true
  u64 : ∀ i ∈ [0, 1, 7, 9], ∃ x, ps[i]? = some (.int .u64 x) ∧ 0 ≤ x ∧ x ≤ 18446744073709551615
  i64 : ∀ i ∈ [3, 4, 6, 12, 13, 14, 15, 16, 20, 21, 22, 24, 25, 29, 30, 31], ∃ x, ps[i]? = some (.int .i64 x) ∧ -9223372036854775808 ≤ x ∧ x ≤ 9223372036854775807
  u32 : ∀ i ∈ [8, 10, 17, 18, 23, 27, 28], ∃ x, ps[i]? = some (.int .u32 x) ∧ 0 ≤ x ∧ x ≤ 4294967295
  bool : ∀ i ∈ [2, 5, 11, 26], ∃ b, ps[i]? = some (.bool b)
  str : ∀ i ∈ [19, 32, 33, 34, 35], ∃ s, ps[i]? = some (.string s)
theorem thirtysix {A : Array Value} (h : A.size = 36) : ∃ a0 a1 a2 a3 a4 a5 a6 a7 a8 a9 a10 a11 a12 a13 a14 a15 a16 a17 a18 a19 a20 a21 a22 a23 a24 a25 a26 a27 a28 a29 a30 a31 a32 a33 a34 a35, A = #[a0, a1, a2, a3, a4, a5, a6, a7, a8, a9, a10, a11, a12, a13, a14, a15, a16, a17, a18, a19, a20, a21, a22, a23, a24, a25, a26, a27, a28, a29, a30, a31, a32, a33, a34, a35] := by
  obtain ⟨l⟩ := A
  have hl : l.length = 36 := by simpa using h
  obtain ⟨a0, l0, rfl, k0⟩ := list_cons hl
  obtain ⟨a1, l1, rfl, k1⟩ := list_cons k0
  obtain ⟨a2, l2, rfl, k2⟩ := list_cons k1
  obtain ⟨a3, l3, rfl, k3⟩ := list_cons k2
  obtain ⟨a4, l4, rfl, k4⟩ := list_cons k3
  obtain ⟨a5, l5, rfl, k5⟩ := list_cons k4
  obtain ⟨a6, l6, rfl, k6⟩ := list_cons k5
  obtain ⟨a7, l7, rfl, k7⟩ := list_cons k6
  obtain ⟨a8, l8, rfl, k8⟩ := list_cons k7
  obtain ⟨a9, l9, rfl, k9⟩ := list_cons k8
  obtain ⟨a10, l10, rfl, k10⟩ := list_cons k9
  obtain ⟨a11, l11, rfl, k11⟩ := list_cons k10
  obtain ⟨a12, l12, rfl, k12⟩ := list_cons k11
  obtain ⟨a13, l13, rfl, k13⟩ := list_cons k12
  obtain ⟨a14, l14, rfl, k14⟩ := list_cons k13
  obtain ⟨a15, l15, rfl, k15⟩ := list_cons k14
  obtain ⟨a16, l16, rfl, k16⟩ := list_cons k15
  obtain ⟨a17, l17, rfl, k17⟩ := list_cons k16
  obtain ⟨a18, l18, rfl, k18⟩ := list_cons k17
  obtain ⟨a19, l19, rfl, k19⟩ := list_cons k18
  obtain ⟨a20, l20, rfl, k20⟩ := list_cons k19
  obtain ⟨a21, l21, rfl, k21⟩ := list_cons k20
  obtain ⟨a22, l22, rfl, k22⟩ := list_cons k21
  obtain ⟨a23, l23, rfl, k23⟩ := list_cons k22
  obtain ⟨a24, l24, rfl, k24⟩ := list_cons k23
  obtain ⟨a25, l25, rfl, k25⟩ := list_cons k24
  obtain ⟨a26, l26, rfl, k26⟩ := list_cons k25
  obtain ⟨a27, l27, rfl, k27⟩ := list_cons k26
  obtain ⟨a28, l28, rfl, k28⟩ := list_cons k27
  obtain ⟨a29, l29, rfl, k29⟩ := list_cons k28
  obtain ⟨a30, l30, rfl, k30⟩ := list_cons k29
  obtain ⟨a31, l31, rfl, k31⟩ := list_cons k30
  obtain ⟨a32, l32, rfl, k32⟩ := list_cons k31
  obtain ⟨a33, l33, rfl, k33⟩ := list_cons k32
  obtain ⟨a34, l34, rfl, k34⟩ := list_cons k33
  obtain ⟨a35, l35, rfl, k35⟩ := list_cons k34
  obtain rfl := List.length_eq_zero_iff.1 k35
  exact ⟨a0, a1, a2, a3, a4, a5, a6, a7, a8, a9, a10, a11, a12, a13, a14, a15, a16, a17, a18, a19, a20, a21, a22, a23, a24, a25, a26, a27, a28, a29, a30, a31, a32, a33, a34, a35, rfl⟩
/-- A State of a packet, all else noughts. -/
def stP (ps : Array Value) : Array Value := putC zeroC 0 ps.toList
theorem st_built {ps : Array Value} (h : ps.size = 36) : Try.prog.built 46 [(0, .agg ps)] = some (stP ps) := by
  obtain ⟨a0, a1, a2, a3, a4, a5, a6, a7, a8, a9, a10, a11, a12, a13, a14, a15, a16, a17, a18, a19, a20, a21, a22, a23, a24, a25, a26, a27, a28, a29, a30, a31, a32, a33, a34, a35, rfl⟩ := thirtysix h
  kernel_rfl
theorem stP_size (ps : Array Value) : (stP ps).size = 49 := by unfold stP; rw [putC_size]; rfl
theorem stP_one {ps : Array Value} (h : ps.all (·.oneCell') = true) : (stP ps).all (·.oneCell') = true := putC_one9 zeroC_one h 0
theorem stP_lo {ps : Array Value} (h : ps.size = 36) {i : Nat} (hi : i < 36) : (stP ps)[i]? = ps[i]? := by
  unfold stP
  rw [putC_get _ _ _ _ (by rw [Array.length_toList, h]; decide), if_neg (by omega), if_pos (by rw [Array.length_toList, h]; omega)]
  simp
theorem stP_hi {ps : Array Value} (h : ps.size = 36) {i : Nat} (hi : 36 ≤ i) : (stP ps)[i]? = zeroC[i]? := by
  unfold stP
  rw [putC_get _ _ _ _ (by rw [Array.length_toList, h]; decide), if_neg (by omega), if_neg (by rw [Array.length_toList, h]; omega)]
theorem stP_ps {ps : Array Value} (h : ps.size = 36) : (stP ps).extract 0 (0 + 36) = ps := by
  apply Array.ext_getElem?
  intro i
  by_cases hi : i < 36
  · rw [ext_get (by rw [stP_size]; decide) hi, Nat.zero_add, stP_lo h hi]
  · rw [Array.getElem?_eq_none (by simp [stP_size]; omega), Array.getElem?_eq_none (by omega)]
theorem PSt.st {ps : Array Value} (h : PSt ps) : St (stP ps) := by
  refine ⟨stP_size ps, stP_one h.one, fun i hi => ?_, fun i hi => ?_, fun i hi => ?_, fun i hi => ?_, fun i hi => ?_⟩
  · have hlo : i < 36 → i ∈ [0, 1, 7, 9] := by intro h36; simp only [List.mem_cons, List.not_mem_nil, or_false] at hi ⊢; omega
    by_cases h36 : i < 36
    · rw [stP_lo h.size h36]; exact h.u64 i (hlo h36)
    · exfalso; simp only [List.mem_cons, List.not_mem_nil, or_false] at hi; omega
  · have hlo : i < 36 → i ∈ [3, 4, 6, 12, 13, 14, 15, 16, 20, 21, 22, 24, 25, 29, 30, 31] := by intro h36; simp only [List.mem_cons, List.not_mem_nil, or_false] at hi ⊢; omega
    by_cases h36 : i < 36
    · rw [stP_lo h.size h36]; exact h.i64 i (hlo h36)
    · rw [stP_hi h.size (by omega)]
      have hh : i ∈ [36, 37, 38, 39, 44, 47, 48] := by simp only [List.mem_cons, List.not_mem_nil, or_false] at hi ⊢; omega
      simp only [List.mem_cons, List.not_mem_nil, or_false] at hh
      refine ⟨0, ?_, by omega, by omega⟩
      rcases hh with rfl | rfl | rfl | rfl | rfl | rfl | rfl <;> rfl
  · have hlo : i < 36 → i ∈ [8, 10, 17, 18, 23, 27, 28] := by intro h36; simp only [List.mem_cons, List.not_mem_nil, or_false] at hi ⊢; omega
    by_cases h36 : i < 36
    · rw [stP_lo h.size h36]; exact h.u32 i (hlo h36)
    · rw [stP_hi h.size (by omega)]
      have hh : i ∈ [40, 41, 42, 43, 45, 46] := by simp only [List.mem_cons, List.not_mem_nil, or_false] at hi ⊢; omega
      simp only [List.mem_cons, List.not_mem_nil, or_false] at hh
      refine ⟨0, ?_, by omega, by omega⟩
      rcases hh with rfl | rfl | rfl | rfl | rfl | rfl <;> rfl
  · have hlo : i < 36 → i ∈ [2, 5, 11, 26] := by intro h36; simp only [List.mem_cons, List.not_mem_nil, or_false] at hi ⊢; omega
    by_cases h36 : i < 36
    · rw [stP_lo h.size h36]; exact h.bool i (hlo h36)
    · exfalso; simp only [List.mem_cons, List.not_mem_nil, or_false] at hi; omega
  · have hlo : i < 36 → i ∈ [19, 32, 33, 34, 35] := by intro h36; simp only [List.mem_cons, List.not_mem_nil, or_false] at hi ⊢; omega
    by_cases h36 : i < 36
    · rw [stP_lo h.size h36]; exact h.str i (hlo h36)
    · exfalso; simp only [List.mem_cons, List.not_mem_nil, or_false] at hi; omega
theorem PSt.pk {ps : Array Value} (h : PSt ps) : ∃ ip fr pr src dst k ty co re sp dp, Pk ps ip fr pr src dst k ty co re sp dp := by
  obtain ⟨ip, h11⟩ := h.bool 11 (by decide)
  obtain ⟨fr, h14, _, _⟩ := h.i64 14 (by decide)
  obtain ⟨pr, h16, _, _⟩ := h.i64 16 (by decide)
  obtain ⟨src, h17, _, _⟩ := h.u32 17 (by decide)
  obtain ⟨dst, h18, _, _⟩ := h.u32 18 (by decide)
  obtain ⟨k, h20, _, _⟩ := h.i64 20 (by decide)
  obtain ⟨ty, h21, _, _⟩ := h.i64 21 (by decide)
  obtain ⟨co, h22, _, _⟩ := h.i64 22 (by decide)
  obtain ⟨re, h23, r1, r2⟩ := h.u32 23 (by decide)
  obtain ⟨sp, h24, _, _⟩ := h.i64 24 (by decide)
  obtain ⟨dp, h25, _, _⟩ := h.i64 25 (by decide)
  exact ⟨ip, fr, pr, src, dst, k, ty, co, re, sp, dp, h.size, h11, h14, h16, h17, h18, h20, h21, h22, h23, h24, h25, ⟨r1, r2⟩⟩
/-- The laws' UDP packet. -/
def udpC (a b c d : Int) : Array Value := #[.int .u64 0, .int .u64 0, .bool false, .int .i64 0, .int .i64 2048, .bool false, .int .i64 0, .int .u64 0, .int .u32 0, .int .u64 0, .int .u32 0, .bool true, .int .i64 0, .int .i64 0, .int .i64 0, .int .i64 9, .int .i64 17, .int .u32 a, .int .u32 b, .string ⟨#[]⟩, .int .i64 2, .int .i64 0, .int .i64 0, .int .u32 0, .int .i64 c, .int .i64 d, .bool false, .int .u32 0, .int .u32 0, .int .i64 0, .int .i64 0, .int .i64 0, .string ⟨#[]⟩, .string ⟨#[]⟩, .string ⟨#[]⟩, .string ⟨#[]⟩]
theorem udp_pst (a b c d : Int) (ha : 0 ≤ a ∧ a ≤ 4294967295) (hb : 0 ≤ b ∧ b ≤ 4294967295) (hc : 0 ≤ c ∧ c ≤ 65535) (hd : 0 ≤ d ∧ d ≤ 65535) : PSt (udpC a b c d) := by
  refine ⟨rfl, by kernel_rfl, ?_, ?_, ?_, ?_, ?_⟩
  · intro i hi
    simp only [List.mem_cons, List.not_mem_nil, or_false] at hi
    rcases hi with rfl | rfl | rfl | rfl
    all_goals exact ⟨_, rfl, by omega, by omega⟩
  · intro i hi
    simp only [List.mem_cons, List.not_mem_nil, or_false] at hi
    rcases hi with rfl | rfl | rfl | rfl | rfl | rfl | rfl | rfl | rfl | rfl | rfl | rfl | rfl | rfl | rfl | rfl
    all_goals exact ⟨_, rfl, by omega, by omega⟩
  · intro i hi
    simp only [List.mem_cons, List.not_mem_nil, or_false] at hi
    rcases hi with rfl | rfl | rfl | rfl | rfl | rfl | rfl
    all_goals exact ⟨_, rfl, by omega, by omega⟩
  · intro i hi
    simp only [List.mem_cons, List.not_mem_nil, or_false] at hi
    rcases hi with rfl | rfl | rfl | rfl
    all_goals exact ⟨_, rfl⟩
  · intro i hi
    simp only [List.mem_cons, List.not_mem_nil, or_false] at hi
    rcases hi with rfl | rfl | rfl | rfl | rfl
    all_goals exact ⟨_, rfl⟩
theorem udp_pk (a b c d : Int) : Pk (udpC a b c d) true 0 17 a b 2 0 0 0 c d := ⟨rfl, rfl, rfl, rfl, rfl, rfl, rfl, rfl, rfl, rfl, rfl, rfl, by omega⟩
theorem udp_has : hasT true 0 2 0 0 = true := by decide +kernel
def ethU : Array Value := #[.int .u64 0, .int .u64 0, .bool false, .int .i64 0, .int .i64 2048]
def ipU (a b : Int) : Array Value := #[.int .i64 0, .int .i64 0, .int .i64 0, .int .i64 9, .int .i64 17, .int .u32 a, .int .u32 b, .string ⟨#[]⟩]
def l4U (c d : Int) : Array Value := #[.int .i64 2, .int .i64 0, .int .i64 0, .int .u32 0, .int .i64 c, .int .i64 d, .bool false, .int .u32 0, .int .u32 0, .int .i64 0, .int .i64 0, .int .i64 0, .string ⟨#[]⟩, .string ⟨#[]⟩]
theorem eth_built : Try.prog.built 32 [(4, .int .i64 2048)] = some ethU := by kernel_rfl
theorem ip_built (a b : Int) : Try.prog.built 37 [(3, .int .i64 9), (4, .int .i64 17), (5, .int .u32 a), (6, .int .u32 b)] = some (ipU a b) := by kernel_rfl
theorem l4_built (c d : Int) : Try.prog.built 39 [(0, .int .i64 2), (4, .int .i64 c), (5, .int .i64 d)] = some (l4U c d) := by kernel_rfl
theorem pk_built (a b c d : Int) : Try.prog.built 41 [(0, .agg ethU), (3, .bool true), (4, .agg (ipU a b)), (5, .agg (l4U c d))] = some (udpC a b c d) := by kernel_rfl
theorem udp_one (a b c d : Int) : (udpC a b c d).all (·.oneCell') = true := by kernel_rfl
set_option maxRecDepth 20000 in
set_option maxHeartbeats 1000000 in
theorem udp_any (a b c d : Int) (w : World) : Calls Try.prog 13 #[.int .u32 a, .int .u32 b, .int .i64 c, .int .i64 d] w fun e w' => e = .returned (.agg (udpC a b c d)) ∧ Below w.heap.size w w' := by
  have e1 := eth_built
  have e2 := ip_built a b
  have e3 := l4_built c d
  have e4 := pk_built a b c d
  have e5 : (udpC a b c d).size = 36 := rfl
  have e6 := udp_one a b c d
  obtain ⟨E, hE⟩ : ∃ E, ethU = E := ⟨_, rfl⟩
  obtain ⟨I, hI⟩ : ∃ I, ipU a b = I := ⟨_, rfl⟩
  obtain ⟨L, hL⟩ : ∃ L, l4U c d = L := ⟨_, rfl⟩
  obtain ⟨U, hU⟩ : ∃ U, udpC a b c d = U := ⟨_, rfl⟩
  rw [hE] at e1 e4
  rw [hI] at e2 e4
  rw [hL] at e3 e4
  rw [hU] at e4 e5 e6 ⊢
  have E1 : Hid _ := e1
  have E2 : Hid _ := e2
  have E3 : Hid _ := e3
  have E4 : Hid _ := e4
  have E5 : Hid _ := e5
  have E6 : Hid _ := e6
  have HZ : Hid _ := heap_alloc_new w (.cells zeroPk 41)
  clear e1 e2 e3 e4 e5 e6 hE hI hL hU
  go_enter Try.func13, Try.ntmps13
  go_wp2_with (first
    | refine wpList_build_as rfl 32 _ rfl E (by rw [List.map_toArray]; exact E1.out) ?_
    | refine wpList_build_as rfl 37 _ rfl I (by rw [List.map_toArray]; exact E2.out) ?_
    | refine wpList_build_as rfl 39 _ rfl L (by rw [List.map_toArray]; exact E3.out) ?_
    | refine wpList_build_as rfl 41 _ rfl U (by rw [List.map_toArray]; exact E4.out) ?_
    | refine wpList_store_row rfl 41 _ _ rfl w.heap.size zeroPk U 41 rfl rfl HZ.out (infoPk E5.out) (Eq.trans (b := 36) rfl E5.out.symm) E6.out ?_
    | fail)
  intro W8 y1 y2 y3 y4
  go_wp2
  exact bodyPost_ret (results_cell_row (p := 8) (ty := 41) rfl _ _ w.heap.size 41 _ (0, 0) _ rfl y1 Try.underlying41 rfl (infoPk E5.out)) rfl ⟨rfl, (below1 _ _).trans y4⟩
end Go.Proofs.Ytjjehncnjcepkaa
