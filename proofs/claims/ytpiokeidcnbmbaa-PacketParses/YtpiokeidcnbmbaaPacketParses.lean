/- PacketParses: what any bytes say as a frame, by the document, and that a packet that is read is printed and read again, byte by byte. For every input; no condition beyond the given row's own. -/
import Derived.Test.YtpiokeidcnbmbaaPNp
import Derived.Test.YtpiokeidcnbmbaaPNi
import Derived.Test.YtpiokeidcnbmbaaPKm
namespace Go.Proofs.Ytpiokeidcnbmbaa
open Go.RowKit
set_option maxRecDepth 20000
set_option linter.unusedSimpArgs false
theorem PkR.neqS (x : PkR) (W : World) : (binOp .neq 34 (.agg x.ps) (.agg x.ps)).run Try.prog W = .ok (.bool false) W := by
  have := PkR.neqRun x x W
  rw [PkR.eqB_self] at this
  exact this
theorem PkR.eqS (x : PkR) (W : World) : (binOp .eql 34 (.agg x.ps) (.agg x.ps)).run Try.prog W = .ok (.bool true) W := by
  have := PkR.eqRun x x W
  rw [PkR.eqB_self] at this
  exact this
set_option maxHeartbeats 8000000 in
theorem parses_no (w : World) (a : Option Addr) (n cap : Nat) (zs : List Int) (h : BS w a n zs) (hcap : n ≤ cap) (hm : cap ≤ 9223372036854775807) (hn9 : n ≤ 140737488351232) (x : PkR) (f : Int) (hf : (f != 0) = true) (hp : parseR zs = (x, f)) :
    Calls Try.prog 3 #[.slice a n cap] w fun e w' => e = .returned (.bool true) ∧ Below w.heap.size w w' := by
  have H : Hid (BS w a n zs) := h
  have HD : Hid (∀ W a' cap', BS W a' n zs → n ≤ cap' → cap' ≤ 9223372036854775807 → Calls Try.prog 8 #[.slice a' n cap'] W fun e w' => e = .returned (.tuple #[.agg x.ps, .int .i64 f]) ∧ Below W.heap.size W w') := fun W a' cap' hB h1 h2 => by
    have := parse_any W a' n cap' zs hB h1 h2
    rw [hp, pv_mk] at this
    exact this
  have HR : Hid (∀ W, BS W a n zs → Calls Try.prog 9 #[.slice a n cap] W fun e w' => e = .returned (.tuple #[.agg x.ps, .int .i64 f]) ∧ Below W.heap.size W w') := fun W hB => by
    have := rparse_any W a n cap zs hB hcap hm
    rw [hp, pv_mk] at this
    exact this
  have HN : Hid _ := PkR.neqS x
  have ZQ : Hid (x.ps.size = 36) := PkR.size x
  have OQ : Hid (x.ps.all (·.oneCell') = true) := by show _ = _; kernel_rfl
  obtain ⟨q, hq⟩ : ∃ p, x.ps = p := ⟨_, rfl⟩
  rw [hq] at HD HR HN ZQ OQ
  clear h hp hq
  obtain ⟨i0, hi, hz0, hz1, hz2⟩ := info_parts info5
  go_enter Try.func3, Try.ntmps3
  go_wp2_with (at_builtin; refine wpList_append_bs (by rfl) _ _ 22 rfl w.heap.size 5 i0 Try.underlying22 hi hz0 hz1 hz2 _ 0 [] rfl (own_empty w _ (Nat.le_refl _)) a n cap zs rfl (H.out.below ((Below.refl _ _).alloc (Nat.le_refl _) _)) (by omega) (by simp) ?_)
  intro a' cap' w1 hown hgrow
  have hb1 : Below w.heap.size w w1 := ((Below.refl _ _).alloc (Nat.le_refl _) _).grown hgrow (by simp) (by rintro k ⟨⟩; exact Nat.le_refl _)
  have B_0 : Hid (Below w.heap.size w w1) := hb1
  have S_0 : Hid (BS w1 a' n zs) := own_bs (by simpa using hown) H.out.fits (by omega)
  have hcc := own_caps hown
  have HCC : Hid (n ≤ cap' ∧ cap' ≤ 9223372036854775807) := ⟨by omega, by omega⟩
  clear hown hgrow hi hz0 hz1 hz2 hb1 hcc
  go_wp2_with fail
  refine (HD.out w1 a' cap' S_0.out HCC.out.1 HCC.out.2).mono ?_
  rintro e W1 ⟨rfl, hb⟩
  have B_1 : Hid (Below w.heap.size w W1) := B_0.out.trans (hb.mono B_0.out.size)
  have S_1 : Hid (BS W1 a' n zs) := S_0.out.below hb
  clear hb B_0 S_0
  go_wp2_with (first
    | ((with_reducible (refine isSt 34 _ _ rfl rfl ?_)); refine Ca.wpList_store_new rfl 34 _ _ rfl zeroPk q _ rfl rfl rfl (info36 ZQ.out) (Eq.trans (b := 36) rfl ZQ.out.symm) OQ.out ?_; refine StopP.out ?_)
    | fail)
  have S_2 : Hid (BS (W1.alloc (.cells q 34)) a' n zs) := S_1.out.below (below1 W1 _)
  have hbA := below1 W1 (.cells q 34)
  have B_2 : Hid (Below w.heap.size w (W1.alloc (.cells q 34))) := B_1.out.trans (hbA.mono B_1.out.size)
  have A_2 : Hid ((W1.alloc (.cells q 34)).heap[W1.heap.size]? = some (.cells q 34 (0, 0))) := heap_alloc_new W1 _
  obtain ⟨W2, hW⟩ : ∃ V, (W1.alloc (.cells q 34)) = V := ⟨_, rfl⟩
  obtain ⟨g2, hg⟩ : ∃ n, W1.heap.size = n := ⟨_, rfl⟩
  rw [hW] at B_2  A_2 ⊢
  rw [hg] at A_2 ⊢
  have HW9 : Hid _ := hW
  clear hW hg hbA B_1 
  rw [HW9.out] at S_2
  clear HW9 S_1
  refine StopP.mk ?_
  go_wp2_with fail
  refine (HR.out _ (H.out.below B_2.out)).mono ?_
  rintro e W3 ⟨rfl, hb⟩
  have S_3 : Hid (BS W3 a' n zs) := S_2.out.below hb
  have B_3 : Hid (Below w.heap.size w W3) := B_2.out.trans (hb.mono B_2.out.size)
  have A_3 : Hid (W3.heap[g2]? = some (.cells q 34 (0, 0))) := (hb.block _ (Ca.lt_of_heap A_2.out)).trans A_2.out
  clear B_2 A_2
  clear hb HR S_2
  go_wp2_with (first
    | ((with_reducible (refine isSt 34 _ _ rfl rfl ?_)); refine Ca.wpList_store_new rfl 34 _ _ rfl zeroPk q _ rfl rfl rfl (info36 ZQ.out) (Eq.trans (b := 36) rfl ZQ.out.symm) OQ.out ?_; refine StopP.out ?_)
    | fail)
  have S_4 : Hid (BS (W3.alloc (.cells q 34)) a' n zs) := S_3.out.below (below1 W3 _)
  have hbA := below1 W3 (.cells q 34)
  have B_4 : Hid (Below w.heap.size w (W3.alloc (.cells q 34))) := B_3.out.trans (hbA.mono B_3.out.size)
  have A_4 : Hid ((W3.alloc (.cells q 34)).heap[g2]? = some (.cells q 34 (0, 0))) := (hbA.block _ (Ca.lt_of_heap A_3.out)).trans A_3.out
  have R_4 : Hid ((W3.alloc (.cells q 34)).heap[W3.heap.size]? = some (.cells q 34 (0, 0))) := heap_alloc_new W3 _
  obtain ⟨W4, hW⟩ : ∃ V, (W3.alloc (.cells q 34)) = V := ⟨_, rfl⟩
  obtain ⟨g4, hg⟩ : ∃ n, W3.heap.size = n := ⟨_, rfl⟩
  rw [hW] at B_4 A_4 R_4 ⊢
  rw [hg] at R_4 ⊢
  have HW9 : Hid _ := hW
  clear hW hg hbA B_3 A_3
  rw [HW9.out] at S_4
  clear HW9 S_3
  refine StopP.mk ?_
  go_wp2_with fail
  refine (lives_any _).mono ?_
  rintro e W5 ⟨rfl, hb⟩
  have S_5 : Hid (BS W5 a' n zs) := S_4.out.below hb
  have B_5 : Hid (Below w.heap.size w W5) := B_4.out.trans (hb.mono B_4.out.size)
  have A_5 : Hid (W5.heap[g2]? = some (.cells q 34 (0, 0))) := (hb.block _ (Ca.lt_of_heap A_4.out)).trans A_4.out
  have R_5 : Hid (W5.heap[g4]? = some (.cells q 34 (0, 0))) := (hb.block _ (Ca.lt_of_heap R_4.out)).trans R_4.out
  clear B_4 A_4 R_4
  clear hb S_4
  have T_5 : Hid (BS W5 a n zs) := H.out.below B_5.out
  have hqn := HN.out
  have cv := run_conv_bs (P := Try.prog) (w := W5) cap' S_5.out 22 9 5 Try.underlying22 Try.underlying5 Try.underlying9
  have cv2 := run_conv_bs (P := Try.prog) (w := W5) cap T_5.out 22 9 5 Try.underlying22 Try.underlying5 Try.underlying9
  have ff : (f != f) = false := by simp
  go_wp2_with (first
    | ((with_reducible (refine isLd 34 _ rfl ?_)); refine Ca.wpList_load_want (by rfl) 34 _ rfl (g2) rfl 34 q (0, 0) _ A_5.out Try.underlying34 rfl (info36 ZQ.out) ?_)
    | ((with_reducible (refine isLd 34 _ rfl ?_)); refine Ca.wpList_load_want (by rfl) 34 _ rfl (g4) rfl 34 q (0, 0) _ R_5.out Try.underlying34 rfl (info36 ZQ.out) ?_)
    | fail)
  go_ret
  exact ⟨rfl, B_5.out⟩
end Go.Proofs.Ytpiokeidcnbmbaa

namespace Go.Proofs.Ytpiokeidcnbmbaa
open Go.RowKit
set_option maxRecDepth 20000
set_option linter.unusedSimpArgs false
def cnt (P Q j : Nat) : Nat := (if P < j then 1 else 0) + (if Q < j then 1 else 0)
theorem cnt_up {P Q j : Nat} (h : j = P ∨ j = Q) : cnt P Q j + 1 ≤ cnt P Q (j + 1) := by
  unfold cnt
  rcases h with rfl | rfl
  · rw [if_neg (by omega), if_pos (show j < j + 1 by omega)]
    split <;> split <;> omega
  · rw [if_neg (show ¬ j < j by omega), if_pos (show j < j + 1 by omega)]
    split <;> split <;> omega
theorem cnt_mono (P Q j : Nat) : cnt P Q j ≤ cnt P Q (j + 1) := by
  unfold cnt
  split <;> split <;> split <;> split <;> omega
theorem cnt_two (P Q j : Nat) : cnt P Q j ≤ 2 := by
  unfold cnt
  split <;> split <;> omega
set_option maxHeartbeats 8000000 in
theorem parses_yes (w : World) (a : Option Addr) (n cap : Nat) (zs : List Int) (h : BS w a n zs) (hcap : n ≤ cap) (hm : cap ≤ 9223372036854775807) (x : PkR) (hp : parseR zs = (x, 0)) :
    Calls Try.prog 3 #[.slice a n cap] w fun e w' => e = .returned (.bool true) ∧ Below w.heap.size w w' := by
  have hg := parse_good zs h.fits x hp
  obtain ⟨P, Q, hal⟩ := hg.alike
  have hlen : x.bytes.length = n := hal.1.trans h.len
  have hn9 : n ≤ 9018 := by have := hg.len; have := h.len; omega
  have HP : Hid (∀ W, Calls Try.prog 11 #[.agg x.ps] W fun e w' => ∃ a cap, e = .returned (.tuple #[.slice a n cap, .int .i64 0]) ∧ RB W w' (.slice a n cap) n x.bytes) := fun W => by
    have := PkR.printYes hg.fine hg.fits (by omega) W
    rw [hlen] at this
    exact this
  have HS : Hid (∀ W a cap, BS W a n x.bytes → n ≤ cap → cap ≤ 9223372036854775807 → Calls Try.prog 8 #[.slice a n cap] W fun e w' => e = .returned (.tuple #[.agg x.ps, .int .i64 0]) ∧ Below W.heap.size W w') := fun W a cap hB h1 h2 => by
    have := parse_any W a n cap x.bytes hB h1 h2
    rw [PkR.back hg.fine hg.fits (by omega), pv_mk] at this
    exact this
  have HE : Hid _ := PkR.eqS x
  have HX : Hid (∀ i, 0 ≤ x.bytes.getD i 0 ∧ x.bytes.getD i 0 ≤ 255) := PkR.bytes_bd hg.fine hg.fits
  have HA : Hid (∀ i, x.bytes.getD i 0 = zs.getD i 0 ∨ i / 2 = P ∨ i / 2 = Q) := hal.2
  clear hg hal hlen
  generalize x.bytes = X at *
  have H : Hid (BS w a n zs) := h
  have HD : Hid (∀ W a' cap', BS W a' n zs → n ≤ cap' → cap' ≤ 9223372036854775807 → Calls Try.prog 8 #[.slice a' n cap'] W fun e w' => e = .returned (.tuple #[.agg x.ps, .int .i64 0]) ∧ Below W.heap.size W w') := fun W a' cap' hB h1 h2 => by
    have := parse_any W a' n cap' zs hB h1 h2
    rw [hp, pv_mk] at this
    exact this
  have HR : Hid (∀ W, BS W a n zs → Calls Try.prog 9 #[.slice a n cap] W fun e w' => e = .returned (.tuple #[.agg x.ps, .int .i64 0]) ∧ Below W.heap.size W w') := fun W hB => by
    have := rparse_any W a n cap zs hB hcap hm
    rw [hp, pv_mk] at this
    exact this
  have HN : Hid _ := PkR.neqS x
  have ZQ : Hid (x.ps.size = 36) := PkR.size x
  have OQ : Hid (x.ps.all (·.oneCell') = true) := by show _ = _; kernel_rfl
  obtain ⟨q, hq⟩ : ∃ p, x.ps = p := ⟨_, rfl⟩
  rw [hq] at HD HR HN ZQ OQ HP HS HE
  clear h hp hq
  obtain ⟨i0, hi, hz0, hz1, hz2⟩ := info_parts info5
  go_enter Try.func3, Try.ntmps3
  go_wp2_with (at_builtin; refine wpList_append_bs (by rfl) _ _ 22 rfl w.heap.size 5 i0 Try.underlying22 hi hz0 hz1 hz2 _ 0 [] rfl (own_empty w _ (Nat.le_refl _)) a n cap zs rfl (H.out.below ((Below.refl _ _).alloc (Nat.le_refl _) _)) (by omega) (by simp) ?_)
  intro a' cap' w1 hown hgrow
  have hb1 : Below w.heap.size w w1 := ((Below.refl _ _).alloc (Nat.le_refl _) _).grown hgrow (by simp) (by rintro k ⟨⟩; exact Nat.le_refl _)
  have B_0 : Hid (Below w.heap.size w w1) := hb1
  have S_0 : Hid (BS w1 a' n zs) := own_bs (by simpa using hown) H.out.fits (by omega)
  have hcc := own_caps hown
  have HCC : Hid (n ≤ cap' ∧ cap' ≤ 9223372036854775807) := ⟨by omega, by omega⟩
  clear hown hgrow hi hz0 hz1 hz2 hb1 hcc
  go_wp2_with fail
  refine (HD.out w1 a' cap' S_0.out HCC.out.1 HCC.out.2).mono ?_
  rintro e W1 ⟨rfl, hb⟩
  have B_1 : Hid (Below w.heap.size w W1) := B_0.out.trans (hb.mono B_0.out.size)
  have S_1 : Hid (BS W1 a' n zs) := S_0.out.below hb
  clear hb B_0 S_0
  go_wp2_with (first
    | ((with_reducible (refine isSt 34 _ _ rfl rfl ?_)); refine Ca.wpList_store_new rfl 34 _ _ rfl zeroPk q _ rfl rfl rfl (info36 ZQ.out) (Eq.trans (b := 36) rfl ZQ.out.symm) OQ.out ?_; refine StopP.out ?_)
    | fail)
  have S_2 : Hid (BS (W1.alloc (.cells q 34)) a' n zs) := S_1.out.below (below1 W1 _)
  have hbA := below1 W1 (.cells q 34)
  have B_2 : Hid (Below w.heap.size w (W1.alloc (.cells q 34))) := B_1.out.trans (hbA.mono B_1.out.size)
  have A_2 : Hid ((W1.alloc (.cells q 34)).heap[W1.heap.size]? = some (.cells q 34 (0, 0))) := heap_alloc_new W1 _
  obtain ⟨W2, hW⟩ : ∃ V, (W1.alloc (.cells q 34)) = V := ⟨_, rfl⟩
  obtain ⟨g2, hg⟩ : ∃ n, W1.heap.size = n := ⟨_, rfl⟩
  rw [hW] at B_2  A_2 ⊢
  rw [hg] at A_2 ⊢
  have HW9 : Hid _ := hW
  clear hW hg hbA B_1 
  rw [HW9.out] at S_2
  clear HW9 S_1
  refine StopP.mk ?_
  go_wp2_with fail
  refine (HR.out _ (H.out.below B_2.out)).mono ?_
  rintro e W3 ⟨rfl, hb⟩
  have S_3 : Hid (BS W3 a' n zs) := S_2.out.below hb
  have B_3 : Hid (Below w.heap.size w W3) := B_2.out.trans (hb.mono B_2.out.size)
  have A_3 : Hid (W3.heap[g2]? = some (.cells q 34 (0, 0))) := (hb.block _ (Ca.lt_of_heap A_2.out)).trans A_2.out
  clear B_2 A_2
  clear hb HR S_2
  go_wp2_with (first
    | ((with_reducible (refine isSt 34 _ _ rfl rfl ?_)); refine Ca.wpList_store_new rfl 34 _ _ rfl zeroPk q _ rfl rfl rfl (info36 ZQ.out) (Eq.trans (b := 36) rfl ZQ.out.symm) OQ.out ?_; refine StopP.out ?_)
    | fail)
  have S_4 : Hid (BS (W3.alloc (.cells q 34)) a' n zs) := S_3.out.below (below1 W3 _)
  have hbA := below1 W3 (.cells q 34)
  have B_4 : Hid (Below w.heap.size w (W3.alloc (.cells q 34))) := B_3.out.trans (hbA.mono B_3.out.size)
  have A_4 : Hid ((W3.alloc (.cells q 34)).heap[g2]? = some (.cells q 34 (0, 0))) := (hbA.block _ (Ca.lt_of_heap A_3.out)).trans A_3.out
  have R_4 : Hid ((W3.alloc (.cells q 34)).heap[W3.heap.size]? = some (.cells q 34 (0, 0))) := heap_alloc_new W3 _
  obtain ⟨W4, hW⟩ : ∃ V, (W3.alloc (.cells q 34)) = V := ⟨_, rfl⟩
  obtain ⟨g4, hg⟩ : ∃ n, W3.heap.size = n := ⟨_, rfl⟩
  rw [hW] at B_4 A_4 R_4 ⊢
  rw [hg] at R_4 ⊢
  have HW9 : Hid _ := hW
  clear hW hg hbA B_3 A_3
  rw [HW9.out] at S_4
  clear HW9 S_3
  refine StopP.mk ?_
  go_wp2_with fail
  refine (lives_any _).mono ?_
  rintro e W5 ⟨rfl, hb⟩
  have S_5 : Hid (BS W5 a' n zs) := S_4.out.below hb
  have B_5 : Hid (Below w.heap.size w W5) := B_4.out.trans (hb.mono B_4.out.size)
  have A_5 : Hid (W5.heap[g2]? = some (.cells q 34 (0, 0))) := (hb.block _ (Ca.lt_of_heap A_4.out)).trans A_4.out
  have R_5 : Hid (W5.heap[g4]? = some (.cells q 34 (0, 0))) := (hb.block _ (Ca.lt_of_heap R_4.out)).trans R_4.out
  clear B_4 A_4 R_4
  clear hb S_4
  have T_5 : Hid (BS W5 a n zs) := H.out.below B_5.out
  have hqn := HN.out
  have cv := run_conv_bs (P := Try.prog) (w := W5) cap' S_5.out 22 9 5 Try.underlying22 Try.underlying5 Try.underlying9
  have cv2 := run_conv_bs (P := Try.prog) (w := W5) cap T_5.out 22 9 5 Try.underlying22 Try.underlying5 Try.underlying9
  go_wp2_with (first
    | ((with_reducible (refine isLd 34 _ rfl ?_)); refine Ca.wpList_load_want (by rfl) 34 _ rfl (g2) rfl 34 q (0, 0) _ A_5.out Try.underlying34 rfl (info36 ZQ.out) ?_)
    | ((with_reducible (refine isLd 34 _ rfl ?_)); refine Ca.wpList_load_want (by rfl) 34 _ rfl (g4) rfl 34 q (0, 0) _ R_5.out Try.underlying34 rfl (info36 ZQ.out) ?_)
    | fail)
  clear hqn cv cv2
  refine (HP.out _).mono ?_
  rintro e W6 ⟨ac, cc, rfl, r6⟩
  have S_6 : Hid (BS W6 ac n X) := r6.bs HX.out (by omega)
  have HC6 : Hid (n ≤ cc ∧ cc ≤ 9223372036854775807) := own_caps r6.own
  have B_6 : Hid (Below w.heap.size w W6) := B_5.out.trans (r6.bel.mono B_5.out.size)
  have A_6 : Hid (W6.heap[g2]? = some (.cells q 34 (0, 0))) := (r6.bel.block _ (Ca.lt_of_heap A_5.out)).trans A_5.out
  clear B_5 A_5
  clear r6 HP R_5 S_5 T_5
  go_wp2_with fail
  refine (HS.out _ _ _ S_6.out HC6.out.1 HC6.out.2).mono ?_
  rintro e W7 ⟨rfl, hb⟩
  have S_7 : Hid (BS W7 ac n X) := S_6.out.below hb
  have B_7 : Hid (Below w.heap.size w W7) := B_6.out.trans (hb.mono B_6.out.size)
  have A_7 : Hid (W7.heap[g2]? = some (.cells q 34 (0, 0))) := (hb.block _ (Ca.lt_of_heap A_6.out)).trans A_6.out
  clear B_6 A_6
  clear hb HS S_6
  go_wp2_with (first
    | ((with_reducible (refine isSt 34 _ _ rfl rfl ?_)); refine Ca.wpList_store_new rfl 34 _ _ rfl zeroPk q _ rfl rfl rfl (info36 ZQ.out) (Eq.trans (b := 36) rfl ZQ.out.symm) OQ.out ?_; refine StopP.out ?_)
    | fail)
  have S_8 : Hid (BS (W7.alloc (.cells q 34)) ac n X) := S_7.out.below (below1 W7 _)
  have hbA := below1 W7 (.cells q 34)
  have B_8 : Hid (Below w.heap.size w (W7.alloc (.cells q 34))) := B_7.out.trans (hbA.mono B_7.out.size)
  have A_8 : Hid ((W7.alloc (.cells q 34)).heap[g2]? = some (.cells q 34 (0, 0))) := (hbA.block _ (Ca.lt_of_heap A_7.out)).trans A_7.out
  have T_8 : Hid ((W7.alloc (.cells q 34)).heap[W7.heap.size]? = some (.cells q 34 (0, 0))) := heap_alloc_new W7 _
  obtain ⟨W8, hW⟩ : ∃ V, (W7.alloc (.cells q 34)) = V := ⟨_, rfl⟩
  obtain ⟨g8, hg⟩ : ∃ n, W7.heap.size = n := ⟨_, rfl⟩
  rw [hW] at B_8 A_8 T_8 ⊢
  rw [hg] at T_8 ⊢
  have HW9 : Hid _ := hW
  clear hW hg hbA B_7 A_7
  rw [HW9.out] at S_8
  clear HW9 S_7
  have H_8 : Hid (BS W8 a n zs) := H.out.below B_8.out
  refine StopP.mk ?_
  go_wp2_with fail
  go_loopw [10, 11] (fun od i wr => ∃ k o nq : Nat, od = .int .i64 o ∧ i = .int .i64 k ∧ k ≤ n + 1 ∧ k % 2 = 0 ∧ o ≤ cnt P Q (k / 2) ∧ wr = W8.drewN nq) (fun _ i _ => n + 2 - (intOf i).toNat)
  case atStart => exact ⟨0, 0, 0, rfl, rfl, by omega, rfl, by omega, rfl⟩
  case round =>
    obtain ⟨k, o, nq0, rfl, rfl, hk, hev, ho, rfl⟩ := hrel
    have h2c := cnt_two P Q (k / 2)
    by_cases hlt : k + 1 < n
    · obtain ⟨b, off, rfl⟩ : ∃ b off, a = some ⟨b, off, none⟩ := by
        rcases H_8.out.cells with h0 | ⟨b, off, e, _⟩
        · omega
        · exact ⟨b, off, e⟩
      obtain ⟨b2, off2, rfl⟩ : ∃ b off, ac = some ⟨b, off, none⟩ := by
        rcases S_8.out.cells with h0 | ⟨b, off, e, _⟩
        · omega
        · exact ⟨b, off, e⟩
      have z0 := bs_cell H_8.out k (by omega)
      have z1 := bs_cell H_8.out (k + 1) hlt
      have x0 := bs_cell S_8.out k (by omega)
      have x1 := bs_cell S_8.out (k + 1) hlt
      have hI0 : (0 : Int) ≤ k := by omega
      have hI1 : (k : Int) < n := by omega
      have hI2 : (k : Int) + 1 < n := by omega
      have hw1 : IntKind.i64.wrap ((k : Int) + 1) = (k : Int) + 1 := by rw [IntKind.wrap_i64]; omega
      have hw2 : IntKind.i64.wrap ((k : Int) + 2) = (k : Int) + 2 := by rw [IntKind.wrap_i64]; omega
      have hw3 : IntKind.i64.wrap ((o : Int) + 1) = (o : Int) + 1 := by rw [IntKind.wrap_i64]; omega
      have hA0 := HA.out k
      have hA1 := HA.out (k + 1)
      rw [show (k + 1) / 2 = k / 2 by omega] at hA1
      have m1 := cnt_mono P Q (k / 2)
      have hst : (k + 2) / 2 = k / 2 + 1 := by omega
      generalize zs.getD k 0 = u0 at *
      generalize zs.getD (k + 1) 0 = u1 at *
      generalize X.getD k 0 = v0 at *
      generalize X.getD (k + 1) 0 = v1 at *
      by_cases d0 : v0 = u0
      · have e0 : (v0 != u0) = false := by simp [d0]
        by_cases d1 : v1 = u1
        · have e1 : (v1 != u1) = false := by simp [d1]
          clear d0 d1 hA0 hA1
          go_wp2
          go_quiet (fail)
          go_wp2
          go_roundw
          case rel => exact ⟨k + 2, o, _, rfl, by go_num, by omega, by omega, by rw [hst]; omega, rfl⟩
          case measure => simp [intOf]; omega
        · have e1 : (v1 != u1) = true := by simp [d1]
          have hu := cnt_up (hA1.resolve_left d1)
          clear d0 d1 hA0 hA1
          go_wp2
          go_quiet (fail)
          go_wp2
          go_roundw
          case rel => exact ⟨k + 2, o + 1, _, by go_num, by go_num, by omega, by omega, by rw [hst]; omega, rfl⟩
          case measure => simp [intOf]; omega
      · have e0 : (v0 != u0) = true := by simp [d0]
        have hu := cnt_up (hA0.resolve_left d0)
        clear d0 hA0 hA1
        go_wp2
        go_quiet (fail)
        go_wp2
        go_roundw
        case rel => exact ⟨k + 2, o + 1, _, by go_num, by go_num, by omega, by omega, by rw [hst]; omega, rfl⟩
        case measure => simp [intOf]; omega
    · have hI2 : ¬ ((k : Int) + 1 < n) := by omega
      have hw1 : IntKind.i64.wrap ((k : Int) + 1) = (k : Int) + 1 := by rw [IntKind.wrap_i64]; omega
      have ho4 : (o : Int) ≤ 4 := by omega
      have he := HE.out
      have A_9 : Hid ((W8.drewN nq0).heap[g2]? = some (.cells q 34 (0, 0))) := A_8.out
      have T_9 : Hid ((W8.drewN nq0).heap[g8]? = some (.cells q 34 (0, 0))) := T_8.out
      go_wp2_with (first
        | ((with_reducible (refine isLd 34 _ rfl ?_)); refine Ca.wpList_load_want (by rfl) 34 _ rfl (g8) rfl 34 q (0, 0) _ T_9.out Try.underlying34 rfl (info36 ZQ.out) ?_)
        | ((with_reducible (refine isLd 34 _ rfl ?_)); refine Ca.wpList_load_want (by rfl) 34 _ rfl (g2) rfl 34 q (0, 0) _ A_9.out Try.underlying34 rfl (info36 ZQ.out) ?_)
        | fail)
      go_ret
      exact ⟨rfl, below_drewN B_8.out _⟩
end Go.Proofs.Ytpiokeidcnbmbaa

namespace Go.Proofs.Ytpiokeidcnbmbaa
open Go.ChangeShapes Go.WideShapes Go.ChangeAt Go.RowKit
theorem parses_any (w : World) (a : Option Addr) (n cap : Nat) (zs : List Int) (h : BS w a n zs) (hcap : n ≤ cap) (hm : cap ≤ 9223372036854775807) (hn9 : n ≤ 140737488351232) :
    Calls Try.prog 3 #[.slice a n cap] w fun e w' => e = .returned (.bool true) ∧ Below w.heap.size w w' := by
  obtain ⟨x, f, hp⟩ : ∃ x f, parseR zs = (x, f) := ⟨_, _, rfl⟩
  by_cases hf : f = 0
  · subst hf
    exact parses_yes w a n cap zs h hcap hm x hp
  · exact parses_no w a n cap zs h hcap hm hn9 x f (by simpa using hf) hp

set_option maxRecDepth 100000 in
theorem packetParses_lifted (os : Os) (started : os.Started) (H : Type) (enc : TypeId × Value → H) :
    ReturnsInHanded {} Try.checked os 3 .any (Rows.packetParsesSpec.pre6 enc Try.prog Try.f3 Rows.packetParsesRow.domain false) (Rows.packetParsesSpec.post enc Try.prog Try.f3 false true false false) := by
  refine returnsInHanded_of_change_sized (C := Try.checked) own started (by kernel_rfl) Try.func3
    (ChangeSpec.witness6 (enc := enc) (C := Try.checked) false ⟨#[], #[.slice none 0 0], []⟩ 8 (by kernel_rfl) (by kernel_rfl) (by kernel_rfl) (by kernel_rfl)) ?_
  intro W base args ds gs before hval0 hW _ hsz0 _
  have hsz : (DataW.weightsEach Try.prog (Try.f3.params.toList ++ Rows.packetParsesSpec.plain.varTypes Try.prog) (ds ++ gs)).all (· ≤ reachBytes) = true := hsz0
  clear hsz0
  have hval : ∀ (j : Nat) t v, Try.f3.params[j]? = some t → args[j]? = some v → Value.okWide Try.prog W .any base t v := hval0
  have hW' := hW
  obtain ⟨p, q, hA0, hV, rfl, _, _⟩ := hW
  have hA : DataW.TrodAll enc Try.prog W 0 (fun _ => true) true Try.f3.params.toList args.toList ds p := hA0
  rw [Try.params3] at hA hval hsz
  obtain ⟨v0, vs0, d0, ds0, p0, q0, hargs, rfl, rfl, h0, r0⟩ := trodAll_cons hA
  obtain ⟨rfl, rfl, rfl⟩ := trodAll_nil r0
  obtain rfl : args = #[v0] := by cases args; simp_all
  obtain ⟨rfl, rfl⟩ := trodVars_none hV
  obtain ⟨a0, len0, cap0, rfl⟩ := okWide_slice Try.underlying22 (hval 0 22 v0 rfl rfl)
  have k0 := h0
  have lt0 : ∀ x ∈ p0, x.block < W.heap.size := by obtain ⟨m, hm⟩ := k0; exact DataW.trod_lt m _ _ _ hm
  obtain ⟨z0, B0, C0, M0⟩ := open_bytes 0 h0 hsz rfl rfl
  clear hA0 hval0
  refine (parses_any W a0 len0 cap0 z0 B0 C0 (by omega) (by omega)).mono fun e W' ⟨he, bel⟩ => ?_
  subst he
  exact ⟨_, rfl, _, _, _, [], _, [], hW', trodAll_mk1 (shut_bool Try.underlying4 _), (trodAll_cons_mk (Below.trod laidOut (by kernel_rfl) (of_decide_eq_true (by kernel_rfl)) k0 bel lt0) trodAll_mk0), rfl, bel.frame _, fun h => by cases h⟩

theorem packetParses_proved : Rows.PacketParsesSaid :=
  OpenClaim.holds_of_wide 3 Try.f3 rfl rfl rfl rfl rfl rfl rfl ⟨rfl, rfl, rfl, rfl, rfl⟩ rfl rfl rfl rfl rfl (by kernel_rfl) Try.func3 (by kernel_rfl)
    (of_decide_eq_true (by kernel_rfl)) (by unfold Func.isWrapper; first | (rw [if_pos (by decide +kernel)]; kernel_rfl) | (rw [if_neg (by decide +kernel)]; exact ⟨rfl, rfl⟩))
    (fun os started H enc _ => packetParses_lifted os started H enc)
#print axioms packetParses_proved
end Go.Proofs.Ytpiokeidcnbmbaa
