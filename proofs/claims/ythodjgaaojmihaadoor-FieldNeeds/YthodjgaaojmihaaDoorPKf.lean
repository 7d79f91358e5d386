/- Parse of package packet, of ARP packets, by what its parts answer. Conditions: as said. -/
import Derived.Test.YthodjgaaojmihaaDoorPKc
namespace Go.Proofs.YthodjgaaojmihaaDoor
open Go.RowKit
set_option maxRecDepth 20000
set_option maxHeartbeats 2000000 in
theorem parse_arpbadA (w : World) (b off n cap A : Nat) (zs : List Int) (h : BS w (some ⟨b, off, none⟩) n zs) (hcap : n ≤ cap) (hm : A ≤ n) (hA0 : 0 < A) (d s tag : Int) (tg : Bool)  (hc : ¬ cap = A) (op sha spa tha tpa : Int) (f : Int) (hf : (f != 0) = true) (HH : Hid (∀ W, BS W (some ⟨b, off, none⟩) n zs → Calls Tryd.prog 9 #[.slice (some ⟨b, off, none⟩) n cap] W fun e w' => e = .returned (Eth.ethV d s tg tag 2054 A 0) ∧ Below W.heap.size W w'))
    (HI : Hid (∀ W, BS W (some ⟨b, off + A, none⟩) (n - A) (zs.drop A) → Calls Tryd.prog 10 #[.slice (some ⟨b, off + A, none⟩) (n - A) (cap - A)] W fun e w' => e = .returned (.tuple #[.agg #[.int .i64 op, .int .u64 sha, .int .u32 spa, .int .u64 tha, .int .u32 tpa], .int .i64 f]) ∧ Below W.heap.size W w')) :
    Calls Tryd.prog 4 #[.slice (some ⟨b, off, none⟩) n cap] w fun e w' => e = .returned (.tuple #[.agg zeroPk, .int .i64 f]) ∧ Below w.heap.size w w' := by
  obtain ⟨p2, Ep2, Zp2⟩ := @letP (Ca.putC zeroPk 0 (#[.int .u64 d, .int .u64 s, .bool tg, .int .i64 tag, .int .i64 2054]).toList) (by kernel_rfl)
  obtain ⟨p3, Ep3, Zp3⟩ := @letP (p2.setIfInBounds 5 (.bool true)) (szSet Zp2.out)
  obtain ⟨p4, Ep4, Zp4⟩ := @letP (Ca.putC p3 6 (#[.int .i64 op, .int .u64 sha, .int .u32 spa, .int .u64 tha, .int .u32 tpa]).toList) (szPut Zp3.out)
  have h1 : (A : Int) ≤ n := by omega
  have h2 : (n : Int) ≤ cap := by omega
  have H : Hid (BS w (some ⟨b, off, none⟩) n zs) := h
  clear h
  go_enter Tryd.func4, Tryd.ntmps4
  go_wp2_with fail
  refine scope_from ?_
  go_wp2_with fail
  refine (HH.out _ (H.out.below (below2 w _ _))).mono ?_
  unfold Eth.ethV
  rintro e W1 ⟨rfl, hb⟩
  obtain ⟨B_W1, R2_W1, R4_W1⟩ : Hid _ ∧ Hid _ ∧ Hid _ := fFirst hb
  clear hb HH
  go_wp2_with (refine Ca.wpList_store_at rfl 25 _ _ rfl (w.heap.size + 1) 0 (zeroPk) #[.int .u64 d, .int .u64 s, .bool tg, .int .i64 tag, .int .i64 2054] 34 rfl rfl R4_W1.out (by kernel_rfl) (Nat.le_of_ble_eq_true (by kernel_rfl)) (by kernel_rfl) ?_)
  intro W2 y1 y2 y3 y4
  obtain ⟨B_W2, R2_W2, R4_W2⟩ := fStore B_W1.out R2_W1.out (rowAs Ep2.out y1) y2 y4
  clear y1 y2 y3 y4
  clear B_W1 R2_W1 R4_W1
  have c4 := (Ca.cell_row R4_W2.out 4).trans (show _ = some (Value.int .i64 2054) by rw [← Ep2.out]; kernel_rfl)
  have c5 := (Ca.cell_row R4_W2.out 5).trans (show _ = some (Value.bool false) by rw [← Ep2.out]; kernel_rfl)
  have f5 := frozen_of_row W2 _ 5 _ _ R4_W2.out
  go_wp2_with fail
  go_step3
  show FromLabel _ _ _ _ _ _
  refine from_label rfl ?_
  go_wp2_with fail
  have RW : Hid _ := rowAs Ep3.out (Ca.row_setCell R4_W2.out 5 (.bool true))
  have ZW : Hid _ := zSet B_W2.out R2_W2.out 5 (.bool true)
  have BW : Hid _ := bSet B_W2.out 5 (.bool true)
  refine (HI.out _ ((H.out.below BW.out).drop (by omega) A (by omega))).mono ?_
  rintro e W3 ⟨rfl, hb⟩
  obtain ⟨B_W3, R2_W3, R4_W3⟩ := fCall BW.out ZW.out RW.out hb
  clear hb HI RW ZW BW B_W2 R2_W2 R4_W2 c4 c5 f5
  have hs_p4 : 6 + (#[.int .i64 op, .int .u64 sha, .int .u32 spa, .int .u64 tha, .int .u32 tpa] : Array Value).size ≤ p3.size := by rw [Zp3.out]; exact Nat.le_of_ble_eq_true (by kernel_rfl)
  go_wp2_with (refine Ca.wpList_store_at rfl 28 _ _ rfl (w.heap.size + 1) 6 p3 #[.int .i64 op, .int .u64 sha, .int .u32 spa, .int .u64 tha, .int .u32 tpa] 34 rfl rfl R4_W3.out (by kernel_rfl) hs_p4 (by kernel_rfl) ?_)
  intro W4 y1 y2 y3 y4
  obtain ⟨B_W4, R2_W4, R4_W4⟩ := fStore B_W3.out R2_W3.out (rowAs Ep4.out y1) y2 y4
  clear y1 y2 y3 y4 hs_p4
  clear B_W3 R2_W3 R4_W3
  go_wp2_with fail
  go_step3
  show FromLabel _ _ _ _ _ _
  refine from_label rfl ?_
  go_wp2_with (refine Ca.wpList_store_row rfl 34 _ _ rfl (w.heap.size) zeroPk zeroPk 34 rfl rfl R2_W4.out (info36 zsize) rfl one36 ?_)
  intro W9 y1 y2 y3 y4
  go_wp2
  simp only [Exit.jumpTo]
  exact bodyPost_ret (results_pk (p := 2) (u := 3) rfl _ _ (w.heap.size) zeroPk rfl y1 zsize) rfl ⟨rfl, B_W4.out.trans (y4.mono (Nat.le_refl _))⟩
set_option maxHeartbeats 2000000 in
theorem parse_arpbadAt (w : World) (b off A : Nat) (zs : List Int) (h : BS w (some ⟨b, off, none⟩) A zs) (d s tag : Int) (tg : Bool)  (op sha spa tha tpa : Int) (f : Int) (hf : (f != 0) = true) (HH : Hid (∀ W, BS W (some ⟨b, off, none⟩) A zs → Calls Tryd.prog 9 #[.slice (some ⟨b, off, none⟩) A A] W fun e w' => e = .returned (Eth.ethV d s tg tag 2054 A 0) ∧ Below W.heap.size W w'))
    (HI : Hid (∀ W, BS W (some ⟨b, off, none⟩) 0 [] → Calls Tryd.prog 10 #[.slice (some ⟨b, off, none⟩) 0 0] W fun e w' => e = .returned (.tuple #[.agg #[.int .i64 op, .int .u64 sha, .int .u32 spa, .int .u64 tha, .int .u32 tpa], .int .i64 f]) ∧ Below W.heap.size W w')) :
    Calls Tryd.prog 4 #[.slice (some ⟨b, off, none⟩) A A] w fun e w' => e = .returned (.tuple #[.agg zeroPk, .int .i64 f]) ∧ Below w.heap.size w w' := by
  obtain ⟨p2, Ep2, Zp2⟩ := @letP (Ca.putC zeroPk 0 (#[.int .u64 d, .int .u64 s, .bool tg, .int .i64 tag, .int .i64 2054]).toList) (by kernel_rfl)
  obtain ⟨p3, Ep3, Zp3⟩ := @letP (p2.setIfInBounds 5 (.bool true)) (szSet Zp2.out)
  obtain ⟨p4, Ep4, Zp4⟩ := @letP (Ca.putC p3 6 (#[.int .i64 op, .int .u64 sha, .int .u32 spa, .int .u64 tha, .int .u32 tpa]).toList) (szPut Zp3.out)
  have H : Hid (BS w (some ⟨b, off, none⟩) A zs) := h
  clear h
  go_enter Tryd.func4, Tryd.ntmps4
  go_wp2_with fail
  refine scope_from ?_
  go_wp2_with fail
  refine (HH.out _ (H.out.below (below2 w _ _))).mono ?_
  unfold Eth.ethV
  rintro e W1 ⟨rfl, hb⟩
  obtain ⟨B_W1, R2_W1, R4_W1⟩ : Hid _ ∧ Hid _ ∧ Hid _ := fFirst hb
  clear hb HH
  go_wp2_with (refine Ca.wpList_store_at rfl 25 _ _ rfl (w.heap.size + 1) 0 (zeroPk) #[.int .u64 d, .int .u64 s, .bool tg, .int .i64 tag, .int .i64 2054] 34 rfl rfl R4_W1.out (by kernel_rfl) (Nat.le_of_ble_eq_true (by kernel_rfl)) (by kernel_rfl) ?_)
  intro W2 y1 y2 y3 y4
  obtain ⟨B_W2, R2_W2, R4_W2⟩ := fStore B_W1.out R2_W1.out (rowAs Ep2.out y1) y2 y4
  clear y1 y2 y3 y4
  clear B_W1 R2_W1 R4_W1
  have c4 := (Ca.cell_row R4_W2.out 4).trans (show _ = some (Value.int .i64 2054) by rw [← Ep2.out]; kernel_rfl)
  have c5 := (Ca.cell_row R4_W2.out 5).trans (show _ = some (Value.bool false) by rw [← Ep2.out]; kernel_rfl)
  have f5 := frozen_of_row W2 _ 5 _ _ R4_W2.out
  go_wp2_with fail
  go_step3
  show FromLabel _ _ _ _ _ _
  refine from_label rfl ?_
  go_wp2_with fail
  have RW : Hid _ := rowAs Ep3.out (Ca.row_setCell R4_W2.out 5 (.bool true))
  have ZW : Hid _ := zSet B_W2.out R2_W2.out 5 (.bool true)
  have BW : Hid _ := bSet B_W2.out 5 (.bool true)
  refine (HI.out _ (BS.empty _)).mono ?_
  rintro e W3 ⟨rfl, hb⟩
  obtain ⟨B_W3, R2_W3, R4_W3⟩ := fCall BW.out ZW.out RW.out hb
  clear hb HI RW ZW BW B_W2 R2_W2 R4_W2 c4 c5 f5
  have hs_p4 : 6 + (#[.int .i64 op, .int .u64 sha, .int .u32 spa, .int .u64 tha, .int .u32 tpa] : Array Value).size ≤ p3.size := by rw [Zp3.out]; exact Nat.le_of_ble_eq_true (by kernel_rfl)
  go_wp2_with (refine Ca.wpList_store_at rfl 28 _ _ rfl (w.heap.size + 1) 6 p3 #[.int .i64 op, .int .u64 sha, .int .u32 spa, .int .u64 tha, .int .u32 tpa] 34 rfl rfl R4_W3.out (by kernel_rfl) hs_p4 (by kernel_rfl) ?_)
  intro W4 y1 y2 y3 y4
  obtain ⟨B_W4, R2_W4, R4_W4⟩ := fStore B_W3.out R2_W3.out (rowAs Ep4.out y1) y2 y4
  clear y1 y2 y3 y4 hs_p4
  clear B_W3 R2_W3 R4_W3
  go_wp2_with fail
  go_step3
  show FromLabel _ _ _ _ _ _
  refine from_label rfl ?_
  go_wp2_with (refine Ca.wpList_store_row rfl 34 _ _ rfl (w.heap.size) zeroPk zeroPk 34 rfl rfl R2_W4.out (info36 zsize) rfl one36 ?_)
  intro W9 y1 y2 y3 y4
  go_wp2
  simp only [Exit.jumpTo]
  exact bodyPost_ret (results_pk (p := 2) (u := 3) rfl _ _ (w.heap.size) zeroPk rfl y1 zsize) rfl ⟨rfl, B_W4.out.trans (y4.mono (Nat.le_refl _))⟩
set_option maxHeartbeats 2000000 in
theorem parse_arpA (w : World) (b off n cap A : Nat) (zs : List Int) (h : BS w (some ⟨b, off, none⟩) n zs) (hcap : n ≤ cap) (q : Nat) (hq : q = A + 28) (hm : q ≤ n) (hA0 : 0 < A) (d s tag : Int) (tg : Bool)  (hc : ¬ cap = q) (op sha spa tha tpa : Int) (pd : ByteArray) (hpd : strOfNums (zs.drop q) = pd) (HH : Hid (∀ W, BS W (some ⟨b, off, none⟩) n zs → Calls Tryd.prog 9 #[.slice (some ⟨b, off, none⟩) n cap] W fun e w' => e = .returned (Eth.ethV d s tg tag 2054 A 0) ∧ Below W.heap.size W w'))
    (HI : Hid (∀ W, BS W (some ⟨b, off + A, none⟩) (n - A) (zs.drop A) → Calls Tryd.prog 10 #[.slice (some ⟨b, off + A, none⟩) (n - A) (cap - A)] W fun e w' => e = .returned (.tuple #[.agg #[.int .i64 op, .int .u64 sha, .int .u32 spa, .int .u64 tha, .int .u32 tpa], .int .i64 0]) ∧ Below W.heap.size W w')) :
    Calls Tryd.prog 4 #[.slice (some ⟨b, off, none⟩) n cap] w fun e w' => e = .returned (.tuple #[.agg ((Ca.putC ((Ca.putC zeroPk 0 (#[.int .u64 d, .int .u64 s, .bool tg, .int .i64 tag, .int .i64 2054]).toList).setIfInBounds 5 (.bool true)) 6 (#[.int .i64 op, .int .u64 sha, .int .u32 spa, .int .u64 tha, .int .u32 tpa]).toList).setIfInBounds 35 (.string pd)), .int .i64 0]) ∧ Below w.heap.size w w' := by
  obtain ⟨p2, Ep2, Zp2⟩ := @letP (Ca.putC zeroPk 0 (#[.int .u64 d, .int .u64 s, .bool tg, .int .i64 tag, .int .i64 2054]).toList) (by kernel_rfl)
  obtain ⟨p3, Ep3, Zp3⟩ := @letP (p2.setIfInBounds 5 (.bool true)) (szSet Zp2.out)
  obtain ⟨p4, Ep4, Zp4⟩ := @letP (Ca.putC p3 6 (#[.int .i64 op, .int .u64 sha, .int .u32 spa, .int .u64 tha, .int .u32 tpa]).toList) (szPut Zp3.out)
  obtain ⟨p6, Ep6, Zp6⟩ := @letP (p4.setIfInBounds 35 (.string pd)) (szSet Zp4.out)
  have HRO : Hid (p6.all (·.oneCell') = true) := by show _ = _; rw [← Ep6.out, ← Ep4.out, ← Ep3.out, ← Ep2.out]; kernel_rfl
  rw [Ep2.out, Ep3.out, Ep4.out, Ep6.out]
  have hrm := h.room
  have h1 : (A : Int) ≤ n := by omega
  have h2 : (n : Int) ≤ cap := by omega
  have hcm : ¬ cap = A := by omega
  have h3 : (q : Int) ≤ n := by omega
  have k1 : (A : Int) + 28 = (q : Int) := by omega
  have w1 : IntKind.i64.wrap (q : Int) = q := by simp [IntKind.wrap, IntKind.bits, IntKind.signed]; omega
  have HN : Hid (A ≤ n ∧ q ≤ n ∧ n ≤ cap ∧ A ≤ q) := by show _ ∧ _; omega
  clear hq
  have H : Hid (BS w (some ⟨b, off, none⟩) n zs) := h
  clear h
  go_enter Tryd.func4, Tryd.ntmps4
  go_wp2_with fail
  refine scope_from ?_
  go_wp2_with fail
  refine (HH.out _ (H.out.below (below2 w _ _))).mono ?_
  unfold Eth.ethV
  rintro e W1 ⟨rfl, hb⟩
  obtain ⟨B_W1, R2_W1, R4_W1⟩ : Hid _ ∧ Hid _ ∧ Hid _ := fFirst hb
  clear hb HH
  go_wp2_with (refine Ca.wpList_store_at rfl 25 _ _ rfl (w.heap.size + 1) 0 (zeroPk) #[.int .u64 d, .int .u64 s, .bool tg, .int .i64 tag, .int .i64 2054] 34 rfl rfl R4_W1.out (by kernel_rfl) (Nat.le_of_ble_eq_true (by kernel_rfl)) (by kernel_rfl) ?_)
  intro W2 y1 y2 y3 y4
  obtain ⟨B_W2, R2_W2, R4_W2⟩ := fStore B_W1.out R2_W1.out (rowAs Ep2.out y1) y2 y4
  clear y1 y2 y3 y4
  clear B_W1 R2_W1 R4_W1
  have c4 := (Ca.cell_row R4_W2.out 4).trans (show _ = some (Value.int .i64 2054) by rw [← Ep2.out]; kernel_rfl)
  have c5 := (Ca.cell_row R4_W2.out 5).trans (show _ = some (Value.bool false) by rw [← Ep2.out]; kernel_rfl)
  have f5 := frozen_of_row W2 _ 5 _ _ R4_W2.out
  go_wp2_with fail
  go_step3
  show FromLabel _ _ _ _ _ _
  refine from_label rfl ?_
  go_wp2_with fail
  have RW : Hid _ := rowAs Ep3.out (Ca.row_setCell R4_W2.out 5 (.bool true))
  have ZW : Hid _ := zSet B_W2.out R2_W2.out 5 (.bool true)
  have BW : Hid _ := bSet B_W2.out 5 (.bool true)
  refine (HI.out _ ((H.out.below BW.out).drop (by have := HN.out; omega) A (by have := HN.out; omega))).mono ?_
  rintro e W3 ⟨rfl, hb⟩
  obtain ⟨B_W3, R2_W3, R4_W3⟩ := fCall BW.out ZW.out RW.out hb
  clear hb HI RW ZW BW B_W2 R2_W2 R4_W2 c4 c5 f5
  have hs_p4 : 6 + (#[.int .i64 op, .int .u64 sha, .int .u32 spa, .int .u64 tha, .int .u32 tpa] : Array Value).size ≤ p3.size := by rw [Zp3.out]; exact Nat.le_of_ble_eq_true (by kernel_rfl)
  go_wp2_with (refine Ca.wpList_store_at rfl 28 _ _ rfl (w.heap.size + 1) 6 p3 #[.int .i64 op, .int .u64 sha, .int .u32 spa, .int .u64 tha, .int .u32 tpa] 34 rfl rfl R4_W3.out (by kernel_rfl) hs_p4 (by kernel_rfl) ?_)
  intro W4 y1 y2 y3 y4
  obtain ⟨B_W4, R2_W4, R4_W4⟩ := fStore B_W3.out R2_W3.out (rowAs Ep4.out y1) y2 y4
  clear y1 y2 y3 y4 hs_p4
  clear B_W3 R2_W3 R4_W3
  have cw : (convert 22 9 (.slice (some ⟨b, off + q, none⟩) (n - q) (cap - q))).run Tryd.prog W4 = .ok (.string pd) W4 := by
    rw [← hpd]
    exact conv9 _ ((H.out.below B_W4.out).drop (by have := HN.out; omega) q (by have := HN.out; omega))
  have c35 := (Ca.cell_row R4_W4.out 35).trans (show _ = some (Value.string ⟨#[]⟩) by rw [← Ep4.out, ← Ep3.out, ← Ep2.out]; kernel_rfl)
  have f35 := frozen_of_row W4 _ 35 _ _ R4_W4.out
  have RW : Hid _ := rowAs Ep6.out (Ca.row_setCell R4_W4.out 35 (.string pd))
  have ZW : Hid _ := zSet B_W4.out R2_W4.out 35 (.string pd)
  have BW : Hid _ := bSet B_W4.out 35 (.string pd)
  clear B_W4 R2_W4 R4_W4 hpd H
  go_wp2_with fail
  go_step3
  show FromLabel _ _ _ _ _ _
  refine from_label rfl ?_
  go_wp2_with (first
    | refine wpList_load_row rfl 34 _ rfl (w.heap.size + 1) rfl 34 p6 (0, 0) _ RW.out Tryd.underlying34 rfl (info36 Zp6.out) ?_
    | refine Ca.wpList_store_row rfl 34 _ _ rfl (w.heap.size) zeroPk p6 34 rfl rfl ZW.out (info36 Zp6.out) (Eq.trans (b := 36) rfl Zp6.out.symm) HRO.out ?_
    | fail)
  intro W9 y1 y2 y3 y4
  go_wp2
  simp only [Exit.jumpTo]
  exact bodyPost_ret (results_pk (p := 2) (u := 3) rfl _ _ (w.heap.size) p6 rfl y1 Zp6.out) rfl ⟨rfl, BW.out.trans (y4.mono (Nat.le_refl _))⟩
set_option maxHeartbeats 2000000 in
theorem parse_arpAt (w : World) (b off A q : Nat) (zs : List Int) (h : BS w (some ⟨b, off, none⟩) q zs) (hq : q = A + 28) (hA0 : 0 < A) (d s tag : Int) (tg : Bool)  (op sha spa tha tpa : Int) (pd : ByteArray) (hpd : strOfNums (zs.drop q) = pd) (HH : Hid (∀ W, BS W (some ⟨b, off, none⟩) q zs → Calls Tryd.prog 9 #[.slice (some ⟨b, off, none⟩) q q] W fun e w' => e = .returned (Eth.ethV d s tg tag 2054 A 0) ∧ Below W.heap.size W w'))
    (HI : Hid (∀ W, BS W (some ⟨b, off + A, none⟩) (q - A) (zs.drop A) → Calls Tryd.prog 10 #[.slice (some ⟨b, off + A, none⟩) (q - A) (q - A)] W fun e w' => e = .returned (.tuple #[.agg #[.int .i64 op, .int .u64 sha, .int .u32 spa, .int .u64 tha, .int .u32 tpa], .int .i64 0]) ∧ Below W.heap.size W w')) :
    Calls Tryd.prog 4 #[.slice (some ⟨b, off, none⟩) q q] w fun e w' => e = .returned (.tuple #[.agg ((Ca.putC ((Ca.putC zeroPk 0 (#[.int .u64 d, .int .u64 s, .bool tg, .int .i64 tag, .int .i64 2054]).toList).setIfInBounds 5 (.bool true)) 6 (#[.int .i64 op, .int .u64 sha, .int .u32 spa, .int .u64 tha, .int .u32 tpa]).toList).setIfInBounds 35 (.string pd)), .int .i64 0]) ∧ Below w.heap.size w w' := by
  obtain ⟨p2, Ep2, Zp2⟩ := @letP (Ca.putC zeroPk 0 (#[.int .u64 d, .int .u64 s, .bool tg, .int .i64 tag, .int .i64 2054]).toList) (by kernel_rfl)
  obtain ⟨p3, Ep3, Zp3⟩ := @letP (p2.setIfInBounds 5 (.bool true)) (szSet Zp2.out)
  obtain ⟨p4, Ep4, Zp4⟩ := @letP (Ca.putC p3 6 (#[.int .i64 op, .int .u64 sha, .int .u32 spa, .int .u64 tha, .int .u32 tpa]).toList) (szPut Zp3.out)
  obtain ⟨p6, Ep6, Zp6⟩ := @letP (p4.setIfInBounds 35 (.string pd)) (szSet Zp4.out)
  have HRO : Hid (p6.all (·.oneCell') = true) := by show _ = _; rw [← Ep6.out, ← Ep4.out, ← Ep3.out, ← Ep2.out]; kernel_rfl
  rw [Ep2.out, Ep3.out, Ep4.out, Ep6.out]
  have hrm := h.room
  have h1 : (A : Int) ≤ q := by omega
  have hcm : ¬ q = A := by omega
  have k1 : (A : Int) + 28 = (q : Int) := by omega
  have w1 : IntKind.i64.wrap (q : Int) = q := by simp [IntKind.wrap, IntKind.bits, IntKind.signed]; omega
  have HN : Hid (A ≤ q ∧ q ≤ q ∧ q ≤ q ∧ A ≤ q) := by show _ ∧ _; omega
  clear hq
  have H : Hid (BS w (some ⟨b, off, none⟩) q zs) := h
  clear h
  go_enter Tryd.func4, Tryd.ntmps4
  go_wp2_with fail
  refine scope_from ?_
  go_wp2_with fail
  refine (HH.out _ (H.out.below (below2 w _ _))).mono ?_
  unfold Eth.ethV
  rintro e W1 ⟨rfl, hb⟩
  obtain ⟨B_W1, R2_W1, R4_W1⟩ : Hid _ ∧ Hid _ ∧ Hid _ := fFirst hb
  clear hb HH
  go_wp2_with (refine Ca.wpList_store_at rfl 25 _ _ rfl (w.heap.size + 1) 0 (zeroPk) #[.int .u64 d, .int .u64 s, .bool tg, .int .i64 tag, .int .i64 2054] 34 rfl rfl R4_W1.out (by kernel_rfl) (Nat.le_of_ble_eq_true (by kernel_rfl)) (by kernel_rfl) ?_)
  intro W2 y1 y2 y3 y4
  obtain ⟨B_W2, R2_W2, R4_W2⟩ := fStore B_W1.out R2_W1.out (rowAs Ep2.out y1) y2 y4
  clear y1 y2 y3 y4
  clear B_W1 R2_W1 R4_W1
  have c4 := (Ca.cell_row R4_W2.out 4).trans (show _ = some (Value.int .i64 2054) by rw [← Ep2.out]; kernel_rfl)
  have c5 := (Ca.cell_row R4_W2.out 5).trans (show _ = some (Value.bool false) by rw [← Ep2.out]; kernel_rfl)
  have f5 := frozen_of_row W2 _ 5 _ _ R4_W2.out
  go_wp2_with fail
  go_step3
  show FromLabel _ _ _ _ _ _
  refine from_label rfl ?_
  go_wp2_with fail
  have RW : Hid _ := rowAs Ep3.out (Ca.row_setCell R4_W2.out 5 (.bool true))
  have ZW : Hid _ := zSet B_W2.out R2_W2.out 5 (.bool true)
  have BW : Hid _ := bSet B_W2.out 5 (.bool true)
  refine (HI.out _ ((H.out.below BW.out).drop (by have := HN.out; omega) A (by have := HN.out; omega))).mono ?_
  rintro e W3 ⟨rfl, hb⟩
  obtain ⟨B_W3, R2_W3, R4_W3⟩ := fCall BW.out ZW.out RW.out hb
  clear hb HI RW ZW BW B_W2 R2_W2 R4_W2 c4 c5 f5
  have hs_p4 : 6 + (#[.int .i64 op, .int .u64 sha, .int .u32 spa, .int .u64 tha, .int .u32 tpa] : Array Value).size ≤ p3.size := by rw [Zp3.out]; exact Nat.le_of_ble_eq_true (by kernel_rfl)
  go_wp2_with (refine Ca.wpList_store_at rfl 28 _ _ rfl (w.heap.size + 1) 6 p3 #[.int .i64 op, .int .u64 sha, .int .u32 spa, .int .u64 tha, .int .u32 tpa] 34 rfl rfl R4_W3.out (by kernel_rfl) hs_p4 (by kernel_rfl) ?_)
  intro W4 y1 y2 y3 y4
  obtain ⟨B_W4, R2_W4, R4_W4⟩ := fStore B_W3.out R2_W3.out (rowAs Ep4.out y1) y2 y4
  clear y1 y2 y3 y4 hs_p4
  clear B_W3 R2_W3 R4_W3
  have cw : (convert 22 9 (.slice (some ⟨b, off, none⟩) 0 0)).run Tryd.prog W4 = .ok (.string pd) W4 := by
    rw [← hpd, List.drop_eq_nil_of_le (by have := H.out.len; omega)]
    exact conv9 0 (BS.empty _)
  have c35 := (Ca.cell_row R4_W4.out 35).trans (show _ = some (Value.string ⟨#[]⟩) by rw [← Ep4.out, ← Ep3.out, ← Ep2.out]; kernel_rfl)
  have f35 := frozen_of_row W4 _ 35 _ _ R4_W4.out
  have RW : Hid _ := rowAs Ep6.out (Ca.row_setCell R4_W4.out 35 (.string pd))
  have ZW : Hid _ := zSet B_W4.out R2_W4.out 35 (.string pd)
  have BW : Hid _ := bSet B_W4.out 35 (.string pd)
  clear B_W4 R2_W4 R4_W4 hpd H
  go_wp2_with fail
  go_step3
  show FromLabel _ _ _ _ _ _
  refine from_label rfl ?_
  go_wp2_with (first
    | refine wpList_load_row rfl 34 _ rfl (w.heap.size + 1) rfl 34 p6 (0, 0) _ RW.out Tryd.underlying34 rfl (info36 Zp6.out) ?_
    | refine Ca.wpList_store_row rfl 34 _ _ rfl (w.heap.size) zeroPk p6 34 rfl rfl ZW.out (info36 Zp6.out) (Eq.trans (b := 36) rfl Zp6.out.symm) HRO.out ?_
    | fail)
  intro W9 y1 y2 y3 y4
  go_wp2
  simp only [Exit.jumpTo]
  exact bodyPost_ret (results_pk (p := 2) (u := 3) rfl _ _ (w.heap.size) p6 rfl y1 Zp6.out) rfl ⟨rfl, BW.out.trans (y4.mono (Nat.le_refl _))⟩
end Go.Proofs.YthodjgaaojmihaaDoor
