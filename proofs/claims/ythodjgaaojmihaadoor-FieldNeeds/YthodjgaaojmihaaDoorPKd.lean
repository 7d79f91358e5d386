/- Parse of package packet, of IPv4 packets, by what its parts answer. Conditions: as said. -/
import Derived.Test.YthodjgaaojmihaaDoorPKc
namespace Go.Proofs.YthodjgaaojmihaaDoor
open Go.RowKit
set_option maxRecDepth 20000
set_option maxHeartbeats 2000000 in
theorem parse_ipbadA (w : World) (b off n cap A : Nat) (zs : List Int) (h : BS w (some ⟨b, off, none⟩) n zs) (hcap : n ≤ cap) (hm : A ≤ n) (hA0 : 0 < A) (d s tag : Int) (tg : Bool)  (hc : ¬ cap = A) (tos id fr ttl pr src dst : Int) (io : List Int) (sz tt f : Int) (hf : (f != 0) = true) (HH : Hid (∀ W, BS W (some ⟨b, off, none⟩) n zs → Calls Tryd.prog 9 #[.slice (some ⟨b, off, none⟩) n cap] W fun e w' => e = .returned (Eth.ethV d s tg tag 2048 A 0) ∧ Below W.heap.size W w'))
    (HI : Hid (∀ W, BS W (some ⟨b, off + A, none⟩) (n - A) (zs.drop A) → Calls Tryd.prog 11 #[.slice (some ⟨b, off + A, none⟩) (n - A) (cap - A)] W fun e w' => e = .returned (.tuple #[.agg #[.int .i64 tos, .int .i64 id, .int .i64 fr, .int .i64 ttl, .int .i64 pr, .int .u32 src, .int .u32 dst, .string (strOfNums io)], .int .i64 sz, .int .i64 tt, .int .i64 f]) ∧ Below W.heap.size W w')) :
    Calls Tryd.prog 4 #[.slice (some ⟨b, off, none⟩) n cap] w fun e w' => e = .returned (.tuple #[.agg zeroPk, .int .i64 f]) ∧ Below w.heap.size w w' := by
  obtain ⟨p2, Ep2, Zp2⟩ := @letP (Ca.putC zeroPk 0 (#[.int .u64 d, .int .u64 s, .bool tg, .int .i64 tag, .int .i64 2048]).toList) (by kernel_rfl)
  obtain ⟨p3, Ep3, Zp3⟩ := @letP (p2.setIfInBounds 11 (.bool true)) (szSet Zp2.out)
  obtain ⟨p4, Ep4, Zp4⟩ := @letP (Ca.putC p3 12 (#[.int .i64 tos, .int .i64 id, .int .i64 fr, .int .i64 ttl, .int .i64 pr, .int .u32 src, .int .u32 dst, .string (strOfNums io)]).toList) (szPut Zp3.out)
  have h1 : (A : Int) ≤ n := by omega
  have h2 : (n : Int) ≤ cap := by omega
  have H : Hid (BS w (some ⟨b, off, none⟩) n zs) := h
  clear h
  go_enter Tryd.func4, Tryd.ntmps4
  go_wp2_with fail
  refine scope_from ?_
  go_wp2_with fail
  refine (HH.out _ (H.out.below (below2 w _ _))).mono ?_
  unfold Eth.ethV
  rintro e W1 ⟨rfl, hb⟩
  obtain ⟨B_W1, R2_W1, R4_W1⟩ : Hid _ ∧ Hid _ ∧ Hid _ := fFirst hb
  clear hb HH
  go_wp2_with (refine Ca.wpList_store_at rfl 25 _ _ rfl (w.heap.size + 1) 0 (zeroPk) #[.int .u64 d, .int .u64 s, .bool tg, .int .i64 tag, .int .i64 2048] 34 rfl rfl R4_W1.out (by kernel_rfl) (Nat.le_of_ble_eq_true (by kernel_rfl)) (by kernel_rfl) ?_)
  intro W2 y1 y2 y3 y4
  obtain ⟨B_W2, R2_W2, R4_W2⟩ := fStore B_W1.out R2_W1.out (rowAs Ep2.out y1) y2 y4
  clear y1 y2 y3 y4
  clear B_W1 R2_W1 R4_W1
  have c4 := (Ca.cell_row R4_W2.out 4).trans (show _ = some (Value.int .i64 2048) by rw [← Ep2.out]; kernel_rfl)
  have c11 := (Ca.cell_row R4_W2.out 11).trans (show _ = some (Value.bool false) by rw [← Ep2.out]; kernel_rfl)
  have f11 := frozen_of_row W2 _ 11 _ _ R4_W2.out
  go_wp2_with fail
  go_step3
  show FromLabel _ _ _ _ _ _
  refine from_label rfl ?_
  go_wp2_with fail
  have RW : Hid _ := rowAs Ep3.out (Ca.row_setCell R4_W2.out 11 (.bool true))
  have ZW : Hid _ := zSet B_W2.out R2_W2.out 11 (.bool true)
  have BW : Hid _ := bSet B_W2.out 11 (.bool true)
  refine (HI.out _ ((H.out.below BW.out).drop (by omega) A (by omega))).mono ?_
  rintro e W3 ⟨rfl, hb⟩
  obtain ⟨B_W3, R2_W3, R4_W3⟩ := fCall BW.out ZW.out RW.out hb
  clear hb HI RW ZW BW B_W2 R2_W2 R4_W2 c4 c11 f11
  have hs_p4 : 12 + (#[.int .i64 tos, .int .i64 id, .int .i64 fr, .int .i64 ttl, .int .i64 pr, .int .u32 src, .int .u32 dst, .string (strOfNums io)] : Array Value).size ≤ p3.size := by rw [Zp3.out]; exact Nat.le_of_ble_eq_true (by kernel_rfl)
  go_wp2_with (refine Ca.wpList_store_at rfl 30 _ _ rfl (w.heap.size + 1) 12 p3 #[.int .i64 tos, .int .i64 id, .int .i64 fr, .int .i64 ttl, .int .i64 pr, .int .u32 src, .int .u32 dst, .string (strOfNums io)] 34 rfl rfl R4_W3.out (by kernel_rfl) hs_p4 (by kernel_rfl) ?_)
  intro W4 y1 y2 y3 y4
  obtain ⟨B_W4, R2_W4, R4_W4⟩ := fStore B_W3.out R2_W3.out (rowAs Ep4.out y1) y2 y4
  clear y1 y2 y3 y4 hs_p4
  clear B_W3 R2_W3 R4_W3
  go_wp2_with fail
  go_step3
  show FromLabel _ _ _ _ _ _
  refine from_label rfl ?_
  go_wp2_with (refine Ca.wpList_store_row rfl 34 _ _ rfl (w.heap.size) zeroPk zeroPk 34 rfl rfl R2_W4.out (info36 zsize) rfl one36 ?_)
  intro W9 y1 y2 y3 y4
  go_wp2
  simp only [Exit.jumpTo]
  exact bodyPost_ret (results_pk (p := 2) (u := 3) rfl _ _ (w.heap.size) zeroPk rfl y1 zsize) rfl ⟨rfl, B_W4.out.trans (y4.mono (Nat.le_refl _))⟩
set_option maxHeartbeats 2000000 in
theorem parse_ipbadAt (w : World) (b off A : Nat) (zs : List Int) (h : BS w (some ⟨b, off, none⟩) A zs) (d s tag : Int) (tg : Bool)  (tos id fr ttl pr src dst : Int) (io : List Int) (sz tt f : Int) (hf : (f != 0) = true) (HH : Hid (∀ W, BS W (some ⟨b, off, none⟩) A zs → Calls Tryd.prog 9 #[.slice (some ⟨b, off, none⟩) A A] W fun e w' => e = .returned (Eth.ethV d s tg tag 2048 A 0) ∧ Below W.heap.size W w'))
    (HI : Hid (∀ W, BS W (some ⟨b, off, none⟩) 0 [] → Calls Tryd.prog 11 #[.slice (some ⟨b, off, none⟩) 0 0] W fun e w' => e = .returned (.tuple #[.agg #[.int .i64 tos, .int .i64 id, .int .i64 fr, .int .i64 ttl, .int .i64 pr, .int .u32 src, .int .u32 dst, .string (strOfNums io)], .int .i64 sz, .int .i64 tt, .int .i64 f]) ∧ Below W.heap.size W w')) :
    Calls Tryd.prog 4 #[.slice (some ⟨b, off, none⟩) A A] w fun e w' => e = .returned (.tuple #[.agg zeroPk, .int .i64 f]) ∧ Below w.heap.size w w' := by
  obtain ⟨p2, Ep2, Zp2⟩ := @letP (Ca.putC zeroPk 0 (#[.int .u64 d, .int .u64 s, .bool tg, .int .i64 tag, .int .i64 2048]).toList) (by kernel_rfl)
  obtain ⟨p3, Ep3, Zp3⟩ := @letP (p2.setIfInBounds 11 (.bool true)) (szSet Zp2.out)
  obtain ⟨p4, Ep4, Zp4⟩ := @letP (Ca.putC p3 12 (#[.int .i64 tos, .int .i64 id, .int .i64 fr, .int .i64 ttl, .int .i64 pr, .int .u32 src, .int .u32 dst, .string (strOfNums io)]).toList) (szPut Zp3.out)
  have H : Hid (BS w (some ⟨b, off, none⟩) A zs) := h
  clear h
  go_enter Tryd.func4, Tryd.ntmps4
  go_wp2_with fail
  refine scope_from ?_
  go_wp2_with fail
  refine (HH.out _ (H.out.below (below2 w _ _))).mono ?_
  unfold Eth.ethV
  rintro e W1 ⟨rfl, hb⟩
  obtain ⟨B_W1, R2_W1, R4_W1⟩ : Hid _ ∧ Hid _ ∧ Hid _ := fFirst hb
  clear hb HH
  go_wp2_with (refine Ca.wpList_store_at rfl 25 _ _ rfl (w.heap.size + 1) 0 (zeroPk) #[.int .u64 d, .int .u64 s, .bool tg, .int .i64 tag, .int .i64 2048] 34 rfl rfl R4_W1.out (by kernel_rfl) (Nat.le_of_ble_eq_true (by kernel_rfl)) (by kernel_rfl) ?_)
  intro W2 y1 y2 y3 y4
  obtain ⟨B_W2, R2_W2, R4_W2⟩ := fStore B_W1.out R2_W1.out (rowAs Ep2.out y1) y2 y4
  clear y1 y2 y3 y4
  clear B_W1 R2_W1 R4_W1
  have c4 := (Ca.cell_row R4_W2.out 4).trans (show _ = some (Value.int .i64 2048) by rw [← Ep2.out]; kernel_rfl)
  have c11 := (Ca.cell_row R4_W2.out 11).trans (show _ = some (Value.bool false) by rw [← Ep2.out]; kernel_rfl)
  have f11 := frozen_of_row W2 _ 11 _ _ R4_W2.out
  go_wp2_with fail
  go_step3
  show FromLabel _ _ _ _ _ _
  refine from_label rfl ?_
  go_wp2_with fail
  have RW : Hid _ := rowAs Ep3.out (Ca.row_setCell R4_W2.out 11 (.bool true))
  have ZW : Hid _ := zSet B_W2.out R2_W2.out 11 (.bool true)
  have BW : Hid _ := bSet B_W2.out 11 (.bool true)
  refine (HI.out _ (BS.empty _)).mono ?_
  rintro e W3 ⟨rfl, hb⟩
  obtain ⟨B_W3, R2_W3, R4_W3⟩ := fCall BW.out ZW.out RW.out hb
  clear hb HI RW ZW BW B_W2 R2_W2 R4_W2 c4 c11 f11
  have hs_p4 : 12 + (#[.int .i64 tos, .int .i64 id, .int .i64 fr, .int .i64 ttl, .int .i64 pr, .int .u32 src, .int .u32 dst, .string (strOfNums io)] : Array Value).size ≤ p3.size := by rw [Zp3.out]; exact Nat.le_of_ble_eq_true (by kernel_rfl)
  go_wp2_with (refine Ca.wpList_store_at rfl 30 _ _ rfl (w.heap.size + 1) 12 p3 #[.int .i64 tos, .int .i64 id, .int .i64 fr, .int .i64 ttl, .int .i64 pr, .int .u32 src, .int .u32 dst, .string (strOfNums io)] 34 rfl rfl R4_W3.out (by kernel_rfl) hs_p4 (by kernel_rfl) ?_)
  intro W4 y1 y2 y3 y4
  obtain ⟨B_W4, R2_W4, R4_W4⟩ := fStore B_W3.out R2_W3.out (rowAs Ep4.out y1) y2 y4
  clear y1 y2 y3 y4 hs_p4
  clear B_W3 R2_W3 R4_W3
  go_wp2_with fail
  go_step3
  show FromLabel _ _ _ _ _ _
  refine from_label rfl ?_
  go_wp2_with (refine Ca.wpList_store_row rfl 34 _ _ rfl (w.heap.size) zeroPk zeroPk 34 rfl rfl R2_W4.out (info36 zsize) rfl one36 ?_)
  intro W9 y1 y2 y3 y4
  go_wp2
  simp only [Exit.jumpTo]
  exact bodyPost_ret (results_pk (p := 2) (u := 3) rfl _ _ (w.heap.size) zeroPk rfl y1 zsize) rfl ⟨rfl, B_W4.out.trans (y4.mono (Nat.le_refl _))⟩
set_option maxHeartbeats 4000000 in
theorem parse_fragAA (w : World) (b off n cap A p q : Nat) (zs : List Int) (h : BS w (some ⟨b, off, none⟩) n zs) (hs tt : Nat) (hp : p = A + hs) (hq : q = A + tt) (h0 : 0 < hs) (hA0 : 0 < A) (hst : hs ≤ tt) (hqn : q ≤ n) (hcap : n ≤ cap) (hc1 : ¬ cap = p) (hc2 : ¬ cap = q) (d s tag : Int) (tg : Bool) (tos id fr ttl pr src dst : Int) (io : List Int) (hw : wholeB fr = false) (dd pd : ByteArray) (hdd : strOfNums ((zs.drop p).take (q - p)) = dd) (hpd : strOfNums (zs.drop q) = pd) (HH : Hid (∀ W, BS W (some ⟨b, off, none⟩) n zs → Calls Tryd.prog 9 #[.slice (some ⟨b, off, none⟩) n cap] W fun e w' => e = .returned (Eth.ethV d s tg tag 2048 A 0) ∧ Below W.heap.size W w'))
    (HI : Hid (∀ W, BS W (some ⟨b, off + A, none⟩) (n - A) (zs.drop A) → Calls Tryd.prog 11 #[.slice (some ⟨b, off + A, none⟩) (n - A) (cap - A)] W fun e w' => e = .returned (.tuple #[.agg #[.int .i64 tos, .int .i64 id, .int .i64 fr, .int .i64 ttl, .int .i64 pr, .int .u32 src, .int .u32 dst, .string (strOfNums io)], .int .i64 hs, .int .i64 tt, .int .i64 0]) ∧ Below W.heap.size W w'))
     :
    Calls Tryd.prog 4 #[.slice (some ⟨b, off, none⟩) n cap] w fun e w' => e = .returned (.tuple #[.agg ((Ca.putC (Ca.putC ((Ca.putC zeroPk 0 (#[.int .u64 d, .int .u64 s, .bool tg, .int .i64 tag, .int .i64 2048]).toList).setIfInBounds 11 (.bool true)) 12 (#[.int .i64 tos, .int .i64 id, .int .i64 fr, .int .i64 ttl, .int .i64 pr, .int .u32 src, .int .u32 dst, .string (strOfNums io)]).toList) 20 (#[.int .i64 0, .int .i64 0, .int .i64 0, .int .u32 0, .int .i64 0, .int .i64 0, .bool false, .int .u32 0, .int .u32 0, .int .i64 0, .int .i64 0, .int .i64 0, .string ⟨#[]⟩, .string dd]).toList).setIfInBounds 35 (.string pd)), .int .i64 0]) ∧ Below w.heap.size w w' := by
  obtain ⟨p2, Ep2, Zp2⟩ := @letP (Ca.putC zeroPk 0 (#[.int .u64 d, .int .u64 s, .bool tg, .int .i64 tag, .int .i64 2048]).toList) (by kernel_rfl)
  obtain ⟨p3, Ep3, Zp3⟩ := @letP (p2.setIfInBounds 11 (.bool true)) (szSet Zp2.out)
  obtain ⟨p4, Ep4, Zp4⟩ := @letP (Ca.putC p3 12 (#[.int .i64 tos, .int .i64 id, .int .i64 fr, .int .i64 ttl, .int .i64 pr, .int .u32 src, .int .u32 dst, .string (strOfNums io)]).toList) (szPut Zp3.out)
  obtain ⟨p5, Ep5, Zp5⟩ := @letP (Ca.putC p4 20 (#[.int .i64 0, .int .i64 0, .int .i64 0, .int .u32 0, .int .i64 0, .int .i64 0, .bool false, .int .u32 0, .int .u32 0, .int .i64 0, .int .i64 0, .int .i64 0, .string ⟨#[]⟩, .string dd]).toList) (szPut Zp4.out)
  obtain ⟨p6, Ep6, Zp6⟩ := @letP (p5.setIfInBounds 35 (.string pd)) (szSet Zp5.out)
  have HRO : Hid (p6.all (·.oneCell') = true) := by show _ = _; rw [← Ep6.out, ← Ep5.out, ← Ep4.out, ← Ep3.out, ← Ep2.out]; kernel_rfl
  rw [Ep2.out, Ep3.out, Ep4.out, Ep5.out, Ep6.out]
  have hm : A ≤ n := by omega
  have hc : ¬ cap = A := by omega
  have h2 : (n : Int) ≤ cap := by omega
  have hrm := h.room
  have k1 : (A : Int) + (hs : Int) = (p : Int) := by omega
  have k2 : (A : Int) + (tt : Int) = (q : Int) := by omega
  have k3 : (p : Int) ≤ q := by omega
  have k4 : (q : Int) ≤ n := by omega
  have k5 : (q : Int) ≤ cap := by omega
  have k6 : (p : Int) ≤ cap := by omega
  have w1 : IntKind.i64.wrap (p : Int) = p := by simp [IntKind.wrap, IntKind.bits, IntKind.signed]; omega
  have w2 : IntKind.i64.wrap (q : Int) = q := by simp [IntKind.wrap, IntKind.bits, IntKind.signed]; omega
  have HN : Hid (A ≤ n ∧ q ≤ n ∧ n ≤ cap ∧ p ≤ q ∧ 0 < p) := by show _ ∧ _; omega
  clear hp hq
  have H : Hid (BS w (some ⟨b, off, none⟩) n zs) := h
  clear h
  go_enter Tryd.func4, Tryd.ntmps4
  go_wp2_with fail
  refine scope_from ?_
  go_wp2_with fail
  refine (HH.out _ (H.out.below (below2 w _ _))).mono ?_
  unfold Eth.ethV
  rintro e W1 ⟨rfl, hb⟩
  obtain ⟨B_W1, R2_W1, R4_W1⟩ : Hid _ ∧ Hid _ ∧ Hid _ := fFirst hb
  clear hb HH
  go_wp2_with (refine Ca.wpList_store_at rfl 25 _ _ rfl (w.heap.size + 1) 0 (zeroPk) #[.int .u64 d, .int .u64 s, .bool tg, .int .i64 tag, .int .i64 2048] 34 rfl rfl R4_W1.out (by kernel_rfl) (Nat.le_of_ble_eq_true (by kernel_rfl)) (by kernel_rfl) ?_)
  intro W2 y1 y2 y3 y4
  obtain ⟨B_W2, R2_W2, R4_W2⟩ := fStore B_W1.out R2_W1.out (rowAs Ep2.out y1) y2 y4
  clear y1 y2 y3 y4
  clear B_W1 R2_W1 R4_W1
  have c4 := (Ca.cell_row R4_W2.out 4).trans (show _ = some (Value.int .i64 2048) by rw [← Ep2.out]; kernel_rfl)
  have c11 := (Ca.cell_row R4_W2.out 11).trans (show _ = some (Value.bool false) by rw [← Ep2.out]; kernel_rfl)
  have f11 := frozen_of_row W2 _ 11 _ _ R4_W2.out
  go_wp2_with fail
  go_step3
  show FromLabel _ _ _ _ _ _
  refine from_label rfl ?_
  go_wp2_with fail
  have RW : Hid _ := rowAs Ep3.out (Ca.row_setCell R4_W2.out 11 (.bool true))
  have ZW : Hid _ := zSet B_W2.out R2_W2.out 11 (.bool true)
  have BW : Hid _ := bSet B_W2.out 11 (.bool true)
  refine (HI.out _ ((H.out.below BW.out).drop (by have := HN.out; omega) A (by have := HN.out; omega))).mono ?_
  rintro e W3 ⟨rfl, hb⟩
  obtain ⟨B_W3, R2_W3, R4_W3⟩ := fCall BW.out ZW.out RW.out hb
  clear hb HI RW ZW BW B_W2 R2_W2 R4_W2 c4 c11 f11
  have hs_p4 : 12 + (#[.int .i64 tos, .int .i64 id, .int .i64 fr, .int .i64 ttl, .int .i64 pr, .int .u32 src, .int .u32 dst, .string (strOfNums io)] : Array Value).size ≤ p3.size := by rw [Zp3.out]; exact Nat.le_of_ble_eq_true (by kernel_rfl)
  go_wp2_with (refine Ca.wpList_store_at rfl 30 _ _ rfl (w.heap.size + 1) 12 p3 #[.int .i64 tos, .int .i64 id, .int .i64 fr, .int .i64 ttl, .int .i64 pr, .int .u32 src, .int .u32 dst, .string (strOfNums io)] 34 rfl rfl R4_W3.out (by kernel_rfl) hs_p4 (by kernel_rfl) ?_)
  intro W4 y1 y2 y3 y4
  obtain ⟨B_W4, R2_W4, R4_W4⟩ := fStore B_W3.out R2_W3.out (rowAs Ep4.out y1) y2 y4
  clear y1 y2 y3 y4 hs_p4
  clear B_W3 R2_W3 R4_W3
  have hx8 : p4.extract 12 (12 + 8) = #[.int .i64 tos, .int .i64 id, .int .i64 fr, .int .i64 ttl, .int .i64 pr, .int .u32 src, .int .u32 dst, .string (strOfNums io)] := by rw [← Ep4.out, ← Ep3.out, ← Ep2.out]; kernel_rfl
  have hx9 : (p4.extract 12 (12 + 8)).size = 8 := by rw [hx8]; rfl
  go_wp2_with (refine Ca.wpList_load_at rfl 30 _ rfl (w.heap.size + 1) 12 8 rfl p4 34 _ R4_W4.out Tryd.underlying30 rfl hx9 (by kernel_rfl) ?_; rw [hx8])
  clear hx8 hx9
  refine (ipwhole_any tos id fr ttl pr src dst io _).mono ?_
  rintro e W5 ⟨rfl, hb⟩
  rw [hw]
  obtain ⟨B_W5, R2_W5, R4_W5⟩ := fCall B_W4.out R2_W4.out R4_W4.out hb
  clear B_W4 R2_W4 R4_W4
  clear hb
  have cv : (convert 22 9 (.slice (some ⟨b, off + p, none⟩) (q - p) (cap - p))).run Tryd.prog W5 = .ok (.string dd) W5 := by
    rw [← hdd]
    exact conv9 _ (((H.out.below B_W5.out).drop (by have := HN.out; omega) p (by have := HN.out; omega)).take (q - p) (by have := HN.out; omega))
  have hs_p5 : 20 + (#[.int .i64 0, .int .i64 0, .int .i64 0, .int .u32 0, .int .i64 0, .int .i64 0, .bool false, .int .u32 0, .int .u32 0, .int .i64 0, .int .i64 0, .int .i64 0, .string ⟨#[]⟩, .string dd] : Array Value).size ≤ p4.size := by rw [Zp4.out]; exact Nat.le_of_ble_eq_true (by kernel_rfl)
  go_wp2_with (refine Ca.wpList_store_at rfl 32 _ _ rfl (w.heap.size + 1) 20 p4 #[.int .i64 0, .int .i64 0, .int .i64 0, .int .u32 0, .int .i64 0, .int .i64 0, .bool false, .int .u32 0, .int .u32 0, .int .i64 0, .int .i64 0, .int .i64 0, .string ⟨#[]⟩, .string dd] 34 rfl rfl R4_W5.out (by kernel_rfl) hs_p5 (by kernel_rfl) ?_)
  intro W6 y1 y2 y3 y4
  obtain ⟨B_W6, R2_W6, R4_W6⟩ := fStore B_W5.out R2_W5.out (rowAs Ep5.out y1) y2 y4
  clear y1 y2 y3 y4 hs_p5
  clear B_W5 R2_W5 R4_W5
  clear cv
  have c35 := (Ca.cell_row R4_W6.out 35).trans (show _ = some (Value.string ⟨#[]⟩) by rw [← Ep5.out, ← Ep4.out, ← Ep3.out, ← Ep2.out]; kernel_rfl)
  have f35 := frozen_of_row W6 _ 35 _ _ R4_W6.out
  have cw : (convert 22 9 (.slice (some ⟨b, off + q, none⟩) (n - q) (cap - q))).run Tryd.prog W6 = .ok (.string pd) W6 := by
    rw [← hpd]
    exact conv9 _ ((H.out.below B_W6.out).drop (by have := HN.out; omega) q (by have := HN.out; omega))
  have RW : Hid _ := rowAs Ep6.out (Ca.row_setCell R4_W6.out 35 (.string pd))
  have ZW : Hid _ := zSet B_W6.out R2_W6.out 35 (.string pd)
  have BW : Hid _ := bSet B_W6.out 35 (.string pd)
  clear B_W6 R2_W6 R4_W6 hpd H
  go_wp2_with fail
  go_step3
  show FromLabel _ _ _ _ _ _
  refine from_label rfl ?_
  go_wp2_with (first
    | refine wpList_load_row rfl 34 _ rfl (w.heap.size + 1) rfl 34 p6 (0, 0) _ RW.out Tryd.underlying34 rfl (info36 Zp6.out) ?_
    | refine Ca.wpList_store_row rfl 34 _ _ rfl (w.heap.size) zeroPk p6 34 rfl rfl ZW.out (info36 Zp6.out) (Eq.trans (b := 36) rfl Zp6.out.symm) HRO.out ?_
    | fail)
  intro W9 y1 y2 y3 y4
  go_wp2
  simp only [Exit.jumpTo]
  exact bodyPost_ret (results_pk (p := 2) (u := 3) rfl _ _ (w.heap.size) p6 rfl y1 Zp6.out) rfl ⟨rfl, BW.out.trans (y4.mono (Nat.le_refl _))⟩
set_option maxHeartbeats 4000000 in
theorem parse_l4badAA (w : World) (b off n cap A p q : Nat) (zs : List Int) (h : BS w (some ⟨b, off, none⟩) n zs) (hs tt : Nat) (hp : p = A + hs) (hq : q = A + tt) (h0 : 0 < hs) (hA0 : 0 < A) (hst : hs ≤ tt) (hqn : q ≤ n) (hcap : n ≤ cap) (hc1 : ¬ cap = p) (d s tag : Int) (tg : Bool) (tos id fr ttl pr src dst : Int) (io : List Int) (hw : wholeB fr = true) (k ty co re sp dp : Int) (ns : Bool) (sq ak fl wi ur : Int) (lo ds : List Int) (f : Int) (hf : (f != 0) = true) (HH : Hid (∀ W, BS W (some ⟨b, off, none⟩) n zs → Calls Tryd.prog 9 #[.slice (some ⟨b, off, none⟩) n cap] W fun e w' => e = .returned (Eth.ethV d s tg tag 2048 A 0) ∧ Below W.heap.size W w'))
    (HI : Hid (∀ W, BS W (some ⟨b, off + A, none⟩) (n - A) (zs.drop A) → Calls Tryd.prog 11 #[.slice (some ⟨b, off + A, none⟩) (n - A) (cap - A)] W fun e w' => e = .returned (.tuple #[.agg #[.int .i64 tos, .int .i64 id, .int .i64 fr, .int .i64 ttl, .int .i64 pr, .int .u32 src, .int .u32 dst, .string (strOfNums io)], .int .i64 hs, .int .i64 tt, .int .i64 0]) ∧ Below W.heap.size W w'))
    (HL : Hid (∀ W, BS W (some ⟨b, off, none⟩) n zs → Calls Tryd.prog 13 #[.int .u32 src, .int .u32 dst, .int .i64 pr, .slice (some ⟨b, off + p, none⟩) (q - p) (cap - p)] W fun e w' => e = .returned (.tuple #[.agg #[.int .i64 k, .int .i64 ty, .int .i64 co, .int .u32 re, .int .i64 sp, .int .i64 dp, .bool ns, .int .u32 sq, .int .u32 ak, .int .i64 fl, .int .i64 wi, .int .i64 ur, .string (strOfNums lo), .string (strOfNums ds)], .int .i64 f]) ∧ Below W.heap.size W w')) :
    Calls Tryd.prog 4 #[.slice (some ⟨b, off, none⟩) n cap] w fun e w' => e = .returned (.tuple #[.agg zeroPk, .int .i64 f]) ∧ Below w.heap.size w w' := by
  obtain ⟨p2, Ep2, Zp2⟩ := @letP (Ca.putC zeroPk 0 (#[.int .u64 d, .int .u64 s, .bool tg, .int .i64 tag, .int .i64 2048]).toList) (by kernel_rfl)
  obtain ⟨p3, Ep3, Zp3⟩ := @letP (p2.setIfInBounds 11 (.bool true)) (szSet Zp2.out)
  obtain ⟨p4, Ep4, Zp4⟩ := @letP (Ca.putC p3 12 (#[.int .i64 tos, .int .i64 id, .int .i64 fr, .int .i64 ttl, .int .i64 pr, .int .u32 src, .int .u32 dst, .string (strOfNums io)]).toList) (szPut Zp3.out)
  obtain ⟨p5, Ep5, Zp5⟩ := @letP (Ca.putC p4 20 (#[.int .i64 k, .int .i64 ty, .int .i64 co, .int .u32 re, .int .i64 sp, .int .i64 dp, .bool ns, .int .u32 sq, .int .u32 ak, .int .i64 fl, .int .i64 wi, .int .i64 ur, .string (strOfNums lo), .string (strOfNums ds)]).toList) (szPut Zp4.out)
  have hm : A ≤ n := by omega
  have hc : ¬ cap = A := by omega
  have h2 : (n : Int) ≤ cap := by omega
  have hrm := h.room
  have k1 : (A : Int) + (hs : Int) = (p : Int) := by omega
  have k2 : (A : Int) + (tt : Int) = (q : Int) := by omega
  have k3 : (p : Int) ≤ q := by omega
  have k4 : (q : Int) ≤ n := by omega
  have k5 : (q : Int) ≤ cap := by omega
  have k6 : (p : Int) ≤ cap := by omega
  have w1 : IntKind.i64.wrap (p : Int) = p := by simp [IntKind.wrap, IntKind.bits, IntKind.signed]; omega
  have w2 : IntKind.i64.wrap (q : Int) = q := by simp [IntKind.wrap, IntKind.bits, IntKind.signed]; omega
  have HN : Hid (A ≤ n ∧ q ≤ n ∧ n ≤ cap ∧ p ≤ q ∧ 0 < p) := by show _ ∧ _; omega
  clear hp hq
  have H : Hid (BS w (some ⟨b, off, none⟩) n zs) := h
  clear h
  go_enter Tryd.func4, Tryd.ntmps4
  go_wp2_with fail
  refine scope_from ?_
  go_wp2_with fail
  refine (HH.out _ (H.out.below (below2 w _ _))).mono ?_
  unfold Eth.ethV
  rintro e W1 ⟨rfl, hb⟩
  obtain ⟨B_W1, R2_W1, R4_W1⟩ : Hid _ ∧ Hid _ ∧ Hid _ := fFirst hb
  clear hb HH
  go_wp2_with (refine Ca.wpList_store_at rfl 25 _ _ rfl (w.heap.size + 1) 0 (zeroPk) #[.int .u64 d, .int .u64 s, .bool tg, .int .i64 tag, .int .i64 2048] 34 rfl rfl R4_W1.out (by kernel_rfl) (Nat.le_of_ble_eq_true (by kernel_rfl)) (by kernel_rfl) ?_)
  intro W2 y1 y2 y3 y4
  obtain ⟨B_W2, R2_W2, R4_W2⟩ := fStore B_W1.out R2_W1.out (rowAs Ep2.out y1) y2 y4
  clear y1 y2 y3 y4
  clear B_W1 R2_W1 R4_W1
  have c4 := (Ca.cell_row R4_W2.out 4).trans (show _ = some (Value.int .i64 2048) by rw [← Ep2.out]; kernel_rfl)
  have c11 := (Ca.cell_row R4_W2.out 11).trans (show _ = some (Value.bool false) by rw [← Ep2.out]; kernel_rfl)
  have f11 := frozen_of_row W2 _ 11 _ _ R4_W2.out
  go_wp2_with fail
  go_step3
  show FromLabel _ _ _ _ _ _
  refine from_label rfl ?_
  go_wp2_with fail
  have RW : Hid _ := rowAs Ep3.out (Ca.row_setCell R4_W2.out 11 (.bool true))
  have ZW : Hid _ := zSet B_W2.out R2_W2.out 11 (.bool true)
  have BW : Hid _ := bSet B_W2.out 11 (.bool true)
  refine (HI.out _ ((H.out.below BW.out).drop (by have := HN.out; omega) A (by have := HN.out; omega))).mono ?_
  rintro e W3 ⟨rfl, hb⟩
  obtain ⟨B_W3, R2_W3, R4_W3⟩ := fCall BW.out ZW.out RW.out hb
  clear hb HI RW ZW BW B_W2 R2_W2 R4_W2 c4 c11 f11
  have hs_p4 : 12 + (#[.int .i64 tos, .int .i64 id, .int .i64 fr, .int .i64 ttl, .int .i64 pr, .int .u32 src, .int .u32 dst, .string (strOfNums io)] : Array Value).size ≤ p3.size := by rw [Zp3.out]; exact Nat.le_of_ble_eq_true (by kernel_rfl)
  go_wp2_with (refine Ca.wpList_store_at rfl 30 _ _ rfl (w.heap.size + 1) 12 p3 #[.int .i64 tos, .int .i64 id, .int .i64 fr, .int .i64 ttl, .int .i64 pr, .int .u32 src, .int .u32 dst, .string (strOfNums io)] 34 rfl rfl R4_W3.out (by kernel_rfl) hs_p4 (by kernel_rfl) ?_)
  intro W4 y1 y2 y3 y4
  obtain ⟨B_W4, R2_W4, R4_W4⟩ := fStore B_W3.out R2_W3.out (rowAs Ep4.out y1) y2 y4
  clear y1 y2 y3 y4 hs_p4
  clear B_W3 R2_W3 R4_W3
  have hx8 : p4.extract 12 (12 + 8) = #[.int .i64 tos, .int .i64 id, .int .i64 fr, .int .i64 ttl, .int .i64 pr, .int .u32 src, .int .u32 dst, .string (strOfNums io)] := by rw [← Ep4.out, ← Ep3.out, ← Ep2.out]; kernel_rfl
  have hx9 : (p4.extract 12 (12 + 8)).size = 8 := by rw [hx8]; rfl
  go_wp2_with (refine Ca.wpList_load_at rfl 30 _ rfl (w.heap.size + 1) 12 8 rfl p4 34 _ R4_W4.out Tryd.underlying30 rfl hx9 (by kernel_rfl) ?_; rw [hx8])
  clear hx8 hx9
  refine (ipwhole_any tos id fr ttl pr src dst io _).mono ?_
  rintro e W5 ⟨rfl, hb⟩
  rw [hw]
  obtain ⟨B_W5, R2_W5, R4_W5⟩ := fCall B_W4.out R2_W4.out R4_W4.out hb
  clear B_W4 R2_W4 R4_W4
  clear hb
  have c17 := (Ca.cell_row R4_W5.out 17).trans (show _ = some (Value.int .u32 src) by rw [← Ep4.out, ← Ep3.out, ← Ep2.out]; kernel_rfl)
  have c18 := (Ca.cell_row R4_W5.out 18).trans (show _ = some (Value.int .u32 dst) by rw [← Ep4.out, ← Ep3.out, ← Ep2.out]; kernel_rfl)
  have c16 := (Ca.cell_row R4_W5.out 16).trans (show _ = some (Value.int .i64 pr) by rw [← Ep4.out, ← Ep3.out, ← Ep2.out]; kernel_rfl)
  go_wp2_with fail
  clear c16 c17 c18
  refine (HL.out _ (H.out.below B_W5.out)).mono ?_
  rintro e W7 ⟨rfl, hb⟩
  obtain ⟨B_W7, R2_W7, R4_W7⟩ := fCall B_W5.out R2_W5.out R4_W5.out hb
  clear B_W5 R2_W5 R4_W5
  clear hb HL
  have hs_p5 : 20 + (#[.int .i64 k, .int .i64 ty, .int .i64 co, .int .u32 re, .int .i64 sp, .int .i64 dp, .bool ns, .int .u32 sq, .int .u32 ak, .int .i64 fl, .int .i64 wi, .int .i64 ur, .string (strOfNums lo), .string (strOfNums ds)] : Array Value).size ≤ p4.size := by rw [Zp4.out]; exact Nat.le_of_ble_eq_true (by kernel_rfl)
  go_wp2_with (refine Ca.wpList_store_at rfl 32 _ _ rfl (w.heap.size + 1) 20 p4 #[.int .i64 k, .int .i64 ty, .int .i64 co, .int .u32 re, .int .i64 sp, .int .i64 dp, .bool ns, .int .u32 sq, .int .u32 ak, .int .i64 fl, .int .i64 wi, .int .i64 ur, .string (strOfNums lo), .string (strOfNums ds)] 34 rfl rfl R4_W7.out (by kernel_rfl) hs_p5 (by kernel_rfl) ?_)
  intro W6 y1 y2 y3 y4
  obtain ⟨B_W6, R2_W6, R4_W6⟩ := fStore B_W7.out R2_W7.out (rowAs Ep5.out y1) y2 y4
  clear y1 y2 y3 y4 hs_p5
  clear B_W7 R2_W7 R4_W7
  go_wp2_with fail
  go_step3
  show FromLabel _ _ _ _ _ _
  refine from_label rfl ?_
  go_wp2_with (refine Ca.wpList_store_row rfl 34 _ _ rfl (w.heap.size) zeroPk zeroPk 34 rfl rfl R2_W6.out (info36 zsize) rfl one36 ?_)
  intro W9 y1 y2 y3 y4
  go_wp2
  simp only [Exit.jumpTo]
  exact bodyPost_ret (results_pk (p := 2) (u := 3) rfl _ _ (w.heap.size) zeroPk rfl y1 zsize) rfl ⟨rfl, B_W6.out.trans (y4.mono (Nat.le_refl _))⟩
set_option maxHeartbeats 4000000 in
theorem parse_okAA (w : World) (b off n cap A p q : Nat) (zs : List Int) (h : BS w (some ⟨b, off, none⟩) n zs) (hs tt : Nat) (hp : p = A + hs) (hq : q = A + tt) (h0 : 0 < hs) (hA0 : 0 < A) (hst : hs ≤ tt) (hqn : q ≤ n) (hcap : n ≤ cap) (hc1 : ¬ cap = p) (hc2 : ¬ cap = q) (d s tag : Int) (tg : Bool) (tos id fr ttl pr src dst : Int) (io : List Int) (hw : wholeB fr = true) (k ty co re sp dp : Int) (ns : Bool) (sq ak fl wi ur : Int) (lo ds : List Int) (pd : ByteArray) (hpd : strOfNums (zs.drop q) = pd) (HH : Hid (∀ W, BS W (some ⟨b, off, none⟩) n zs → Calls Tryd.prog 9 #[.slice (some ⟨b, off, none⟩) n cap] W fun e w' => e = .returned (Eth.ethV d s tg tag 2048 A 0) ∧ Below W.heap.size W w'))
    (HI : Hid (∀ W, BS W (some ⟨b, off + A, none⟩) (n - A) (zs.drop A) → Calls Tryd.prog 11 #[.slice (some ⟨b, off + A, none⟩) (n - A) (cap - A)] W fun e w' => e = .returned (.tuple #[.agg #[.int .i64 tos, .int .i64 id, .int .i64 fr, .int .i64 ttl, .int .i64 pr, .int .u32 src, .int .u32 dst, .string (strOfNums io)], .int .i64 hs, .int .i64 tt, .int .i64 0]) ∧ Below W.heap.size W w'))
    (HL : Hid (∀ W, BS W (some ⟨b, off, none⟩) n zs → Calls Tryd.prog 13 #[.int .u32 src, .int .u32 dst, .int .i64 pr, .slice (some ⟨b, off + p, none⟩) (q - p) (cap - p)] W fun e w' => e = .returned (.tuple #[.agg #[.int .i64 k, .int .i64 ty, .int .i64 co, .int .u32 re, .int .i64 sp, .int .i64 dp, .bool ns, .int .u32 sq, .int .u32 ak, .int .i64 fl, .int .i64 wi, .int .i64 ur, .string (strOfNums lo), .string (strOfNums ds)], .int .i64 0]) ∧ Below W.heap.size W w')) :
    Calls Tryd.prog 4 #[.slice (some ⟨b, off, none⟩) n cap] w fun e w' => e = .returned (.tuple #[.agg ((Ca.putC (Ca.putC ((Ca.putC zeroPk 0 (#[.int .u64 d, .int .u64 s, .bool tg, .int .i64 tag, .int .i64 2048]).toList).setIfInBounds 11 (.bool true)) 12 (#[.int .i64 tos, .int .i64 id, .int .i64 fr, .int .i64 ttl, .int .i64 pr, .int .u32 src, .int .u32 dst, .string (strOfNums io)]).toList) 20 (#[.int .i64 k, .int .i64 ty, .int .i64 co, .int .u32 re, .int .i64 sp, .int .i64 dp, .bool ns, .int .u32 sq, .int .u32 ak, .int .i64 fl, .int .i64 wi, .int .i64 ur, .string (strOfNums lo), .string (strOfNums ds)]).toList).setIfInBounds 35 (.string pd)), .int .i64 0]) ∧ Below w.heap.size w w' := by
  obtain ⟨p2, Ep2, Zp2⟩ := @letP (Ca.putC zeroPk 0 (#[.int .u64 d, .int .u64 s, .bool tg, .int .i64 tag, .int .i64 2048]).toList) (by kernel_rfl)
  obtain ⟨p3, Ep3, Zp3⟩ := @letP (p2.setIfInBounds 11 (.bool true)) (szSet Zp2.out)
  obtain ⟨p4, Ep4, Zp4⟩ := @letP (Ca.putC p3 12 (#[.int .i64 tos, .int .i64 id, .int .i64 fr, .int .i64 ttl, .int .i64 pr, .int .u32 src, .int .u32 dst, .string (strOfNums io)]).toList) (szPut Zp3.out)
  obtain ⟨p5, Ep5, Zp5⟩ := @letP (Ca.putC p4 20 (#[.int .i64 k, .int .i64 ty, .int .i64 co, .int .u32 re, .int .i64 sp, .int .i64 dp, .bool ns, .int .u32 sq, .int .u32 ak, .int .i64 fl, .int .i64 wi, .int .i64 ur, .string (strOfNums lo), .string (strOfNums ds)]).toList) (szPut Zp4.out)
  obtain ⟨p6, Ep6, Zp6⟩ := @letP (p5.setIfInBounds 35 (.string pd)) (szSet Zp5.out)
  have HRO : Hid (p6.all (·.oneCell') = true) := by show _ = _; rw [← Ep6.out, ← Ep5.out, ← Ep4.out, ← Ep3.out, ← Ep2.out]; kernel_rfl
  rw [Ep2.out, Ep3.out, Ep4.out, Ep5.out, Ep6.out]
  have hm : A ≤ n := by omega
  have hc : ¬ cap = A := by omega
  have h2 : (n : Int) ≤ cap := by omega
  have hrm := h.room
  have k1 : (A : Int) + (hs : Int) = (p : Int) := by omega
  have k2 : (A : Int) + (tt : Int) = (q : Int) := by omega
  have k3 : (p : Int) ≤ q := by omega
  have k4 : (q : Int) ≤ n := by omega
  have k5 : (q : Int) ≤ cap := by omega
  have k6 : (p : Int) ≤ cap := by omega
  have w1 : IntKind.i64.wrap (p : Int) = p := by simp [IntKind.wrap, IntKind.bits, IntKind.signed]; omega
  have w2 : IntKind.i64.wrap (q : Int) = q := by simp [IntKind.wrap, IntKind.bits, IntKind.signed]; omega
  have HN : Hid (A ≤ n ∧ q ≤ n ∧ n ≤ cap ∧ p ≤ q ∧ 0 < p) := by show _ ∧ _; omega
  clear hp hq
  have H : Hid (BS w (some ⟨b, off, none⟩) n zs) := h
  clear h
  go_enter Tryd.func4, Tryd.ntmps4
  go_wp2_with fail
  refine scope_from ?_
  go_wp2_with fail
  refine (HH.out _ (H.out.below (below2 w _ _))).mono ?_
  unfold Eth.ethV
  rintro e W1 ⟨rfl, hb⟩
  obtain ⟨B_W1, R2_W1, R4_W1⟩ : Hid _ ∧ Hid _ ∧ Hid _ := fFirst hb
  clear hb HH
  go_wp2_with (refine Ca.wpList_store_at rfl 25 _ _ rfl (w.heap.size + 1) 0 (zeroPk) #[.int .u64 d, .int .u64 s, .bool tg, .int .i64 tag, .int .i64 2048] 34 rfl rfl R4_W1.out (by kernel_rfl) (Nat.le_of_ble_eq_true (by kernel_rfl)) (by kernel_rfl) ?_)
  intro W2 y1 y2 y3 y4
  obtain ⟨B_W2, R2_W2, R4_W2⟩ := fStore B_W1.out R2_W1.out (rowAs Ep2.out y1) y2 y4
  clear y1 y2 y3 y4
  clear B_W1 R2_W1 R4_W1
  have c4 := (Ca.cell_row R4_W2.out 4).trans (show _ = some (Value.int .i64 2048) by rw [← Ep2.out]; kernel_rfl)
  have c11 := (Ca.cell_row R4_W2.out 11).trans (show _ = some (Value.bool false) by rw [← Ep2.out]; kernel_rfl)
  have f11 := frozen_of_row W2 _ 11 _ _ R4_W2.out
  go_wp2_with fail
  go_step3
  show FromLabel _ _ _ _ _ _
  refine from_label rfl ?_
  go_wp2_with fail
  have RW : Hid _ := rowAs Ep3.out (Ca.row_setCell R4_W2.out 11 (.bool true))
  have ZW : Hid _ := zSet B_W2.out R2_W2.out 11 (.bool true)
  have BW : Hid _ := bSet B_W2.out 11 (.bool true)
  refine (HI.out _ ((H.out.below BW.out).drop (by have := HN.out; omega) A (by have := HN.out; omega))).mono ?_
  rintro e W3 ⟨rfl, hb⟩
  obtain ⟨B_W3, R2_W3, R4_W3⟩ := fCall BW.out ZW.out RW.out hb
  clear hb HI RW ZW BW B_W2 R2_W2 R4_W2 c4 c11 f11
  have hs_p4 : 12 + (#[.int .i64 tos, .int .i64 id, .int .i64 fr, .int .i64 ttl, .int .i64 pr, .int .u32 src, .int .u32 dst, .string (strOfNums io)] : Array Value).size ≤ p3.size := by rw [Zp3.out]; exact Nat.le_of_ble_eq_true (by kernel_rfl)
  go_wp2_with (refine Ca.wpList_store_at rfl 30 _ _ rfl (w.heap.size + 1) 12 p3 #[.int .i64 tos, .int .i64 id, .int .i64 fr, .int .i64 ttl, .int .i64 pr, .int .u32 src, .int .u32 dst, .string (strOfNums io)] 34 rfl rfl R4_W3.out (by kernel_rfl) hs_p4 (by kernel_rfl) ?_)
  intro W4 y1 y2 y3 y4
  obtain ⟨B_W4, R2_W4, R4_W4⟩ := fStore B_W3.out R2_W3.out (rowAs Ep4.out y1) y2 y4
  clear y1 y2 y3 y4 hs_p4
  clear B_W3 R2_W3 R4_W3
  have hx8 : p4.extract 12 (12 + 8) = #[.int .i64 tos, .int .i64 id, .int .i64 fr, .int .i64 ttl, .int .i64 pr, .int .u32 src, .int .u32 dst, .string (strOfNums io)] := by rw [← Ep4.out, ← Ep3.out, ← Ep2.out]; kernel_rfl
  have hx9 : (p4.extract 12 (12 + 8)).size = 8 := by rw [hx8]; rfl
  go_wp2_with (refine Ca.wpList_load_at rfl 30 _ rfl (w.heap.size + 1) 12 8 rfl p4 34 _ R4_W4.out Tryd.underlying30 rfl hx9 (by kernel_rfl) ?_; rw [hx8])
  clear hx8 hx9
  refine (ipwhole_any tos id fr ttl pr src dst io _).mono ?_
  rintro e W5 ⟨rfl, hb⟩
  rw [hw]
  obtain ⟨B_W5, R2_W5, R4_W5⟩ := fCall B_W4.out R2_W4.out R4_W4.out hb
  clear B_W4 R2_W4 R4_W4
  clear hb
  have c17 := (Ca.cell_row R4_W5.out 17).trans (show _ = some (Value.int .u32 src) by rw [← Ep4.out, ← Ep3.out, ← Ep2.out]; kernel_rfl)
  have c18 := (Ca.cell_row R4_W5.out 18).trans (show _ = some (Value.int .u32 dst) by rw [← Ep4.out, ← Ep3.out, ← Ep2.out]; kernel_rfl)
  have c16 := (Ca.cell_row R4_W5.out 16).trans (show _ = some (Value.int .i64 pr) by rw [← Ep4.out, ← Ep3.out, ← Ep2.out]; kernel_rfl)
  go_wp2_with fail
  clear c16 c17 c18
  refine (HL.out _ (H.out.below B_W5.out)).mono ?_
  rintro e W7 ⟨rfl, hb⟩
  obtain ⟨B_W7, R2_W7, R4_W7⟩ := fCall B_W5.out R2_W5.out R4_W5.out hb
  clear B_W5 R2_W5 R4_W5
  clear hb HL
  have hs_p5 : 20 + (#[.int .i64 k, .int .i64 ty, .int .i64 co, .int .u32 re, .int .i64 sp, .int .i64 dp, .bool ns, .int .u32 sq, .int .u32 ak, .int .i64 fl, .int .i64 wi, .int .i64 ur, .string (strOfNums lo), .string (strOfNums ds)] : Array Value).size ≤ p4.size := by rw [Zp4.out]; exact Nat.le_of_ble_eq_true (by kernel_rfl)
  go_wp2_with (refine Ca.wpList_store_at rfl 32 _ _ rfl (w.heap.size + 1) 20 p4 #[.int .i64 k, .int .i64 ty, .int .i64 co, .int .u32 re, .int .i64 sp, .int .i64 dp, .bool ns, .int .u32 sq, .int .u32 ak, .int .i64 fl, .int .i64 wi, .int .i64 ur, .string (strOfNums lo), .string (strOfNums ds)] 34 rfl rfl R4_W7.out (by kernel_rfl) hs_p5 (by kernel_rfl) ?_)
  intro W6 y1 y2 y3 y4
  obtain ⟨B_W6, R2_W6, R4_W6⟩ := fStore B_W7.out R2_W7.out (rowAs Ep5.out y1) y2 y4
  clear y1 y2 y3 y4 hs_p5
  clear B_W7 R2_W7 R4_W7
  have c35 := (Ca.cell_row R4_W6.out 35).trans (show _ = some (Value.string ⟨#[]⟩) by rw [← Ep5.out, ← Ep4.out, ← Ep3.out, ← Ep2.out]; kernel_rfl)
  have f35 := frozen_of_row W6 _ 35 _ _ R4_W6.out
  have cw : (convert 22 9 (.slice (some ⟨b, off + q, none⟩) (n - q) (cap - q))).run Tryd.prog W6 = .ok (.string pd) W6 := by
    rw [← hpd]
    exact conv9 _ ((H.out.below B_W6.out).drop (by have := HN.out; omega) q (by have := HN.out; omega))
  have RW : Hid _ := rowAs Ep6.out (Ca.row_setCell R4_W6.out 35 (.string pd))
  have ZW : Hid _ := zSet B_W6.out R2_W6.out 35 (.string pd)
  have BW : Hid _ := bSet B_W6.out 35 (.string pd)
  clear B_W6 R2_W6 R4_W6 hpd H
  go_wp2_with fail
  go_step3
  go_wp2_with (first
    | refine wpList_load_row rfl 34 _ rfl (w.heap.size + 1) rfl 34 p6 (0, 0) _ RW.out Tryd.underlying34 rfl (info36 Zp6.out) ?_
    | refine Ca.wpList_store_row rfl 34 _ _ rfl (w.heap.size) zeroPk p6 34 rfl rfl ZW.out (info36 Zp6.out) (Eq.trans (b := 36) rfl Zp6.out.symm) HRO.out ?_
    | fail)
  intro W9 y1 y2 y3 y4
  go_wp2
  simp only [Exit.jumpTo]
  exact bodyPost_ret (results_pk (p := 2) (u := 3) rfl _ _ (w.heap.size) p6 rfl y1 Zp6.out) rfl ⟨rfl, BW.out.trans (y4.mono (Nat.le_refl _))⟩
set_option maxHeartbeats 4000000 in
theorem parse_fragAB (w : World) (b off A p : Nat) (zs : List Int) (h : BS w (some ⟨b, off, none⟩) p zs) (hs tt : Nat) (hp : p = A + hs) (hq : p = A + tt) (h0 : 0 < hs) (hA0 : 0 < A)  (d s tag : Int) (tg : Bool) (tos id fr ttl pr src dst : Int) (io : List Int) (hw : wholeB fr = false) (dd pd : ByteArray) (hdd : strOfNums ((zs.drop p).take (p - p)) = dd) (hpd : strOfNums (zs.drop p) = pd) (HH : Hid (∀ W, BS W (some ⟨b, off, none⟩) p zs → Calls Tryd.prog 9 #[.slice (some ⟨b, off, none⟩) p p] W fun e w' => e = .returned (Eth.ethV d s tg tag 2048 A 0) ∧ Below W.heap.size W w'))
    (HI : Hid (∀ W, BS W (some ⟨b, off + A, none⟩) (p - A) (zs.drop A) → Calls Tryd.prog 11 #[.slice (some ⟨b, off + A, none⟩) (p - A) (p - A)] W fun e w' => e = .returned (.tuple #[.agg #[.int .i64 tos, .int .i64 id, .int .i64 fr, .int .i64 ttl, .int .i64 pr, .int .u32 src, .int .u32 dst, .string (strOfNums io)], .int .i64 hs, .int .i64 tt, .int .i64 0]) ∧ Below W.heap.size W w'))
     :
    Calls Tryd.prog 4 #[.slice (some ⟨b, off, none⟩) p p] w fun e w' => e = .returned (.tuple #[.agg ((Ca.putC (Ca.putC ((Ca.putC zeroPk 0 (#[.int .u64 d, .int .u64 s, .bool tg, .int .i64 tag, .int .i64 2048]).toList).setIfInBounds 11 (.bool true)) 12 (#[.int .i64 tos, .int .i64 id, .int .i64 fr, .int .i64 ttl, .int .i64 pr, .int .u32 src, .int .u32 dst, .string (strOfNums io)]).toList) 20 (#[.int .i64 0, .int .i64 0, .int .i64 0, .int .u32 0, .int .i64 0, .int .i64 0, .bool false, .int .u32 0, .int .u32 0, .int .i64 0, .int .i64 0, .int .i64 0, .string ⟨#[]⟩, .string dd]).toList).setIfInBounds 35 (.string pd)), .int .i64 0]) ∧ Below w.heap.size w w' := by
  obtain ⟨p2, Ep2, Zp2⟩ := @letP (Ca.putC zeroPk 0 (#[.int .u64 d, .int .u64 s, .bool tg, .int .i64 tag, .int .i64 2048]).toList) (by kernel_rfl)
  obtain ⟨p3, Ep3, Zp3⟩ := @letP (p2.setIfInBounds 11 (.bool true)) (szSet Zp2.out)
  obtain ⟨p4, Ep4, Zp4⟩ := @letP (Ca.putC p3 12 (#[.int .i64 tos, .int .i64 id, .int .i64 fr, .int .i64 ttl, .int .i64 pr, .int .u32 src, .int .u32 dst, .string (strOfNums io)]).toList) (szPut Zp3.out)
  obtain ⟨p5, Ep5, Zp5⟩ := @letP (Ca.putC p4 20 (#[.int .i64 0, .int .i64 0, .int .i64 0, .int .u32 0, .int .i64 0, .int .i64 0, .bool false, .int .u32 0, .int .u32 0, .int .i64 0, .int .i64 0, .int .i64 0, .string ⟨#[]⟩, .string dd]).toList) (szPut Zp4.out)
  obtain ⟨p6, Ep6, Zp6⟩ := @letP (p5.setIfInBounds 35 (.string pd)) (szSet Zp5.out)
  have HRO : Hid (p6.all (·.oneCell') = true) := by show _ = _; rw [← Ep6.out, ← Ep5.out, ← Ep4.out, ← Ep3.out, ← Ep2.out]; kernel_rfl
  rw [Ep2.out, Ep3.out, Ep4.out, Ep5.out, Ep6.out]
  have hm : A ≤ p := by omega
  have hrm := h.room
  have k1 : (A : Int) + (hs : Int) = (p : Int) := by omega
  have k2 : (A : Int) + (tt : Int) = (p : Int) := by omega
  have w1 : IntKind.i64.wrap (p : Int) = p := by simp [IntKind.wrap, IntKind.bits, IntKind.signed]; omega
  have HN : Hid (A ≤ p ∧ p ≤ p ∧ p ≤ p ∧ p ≤ p ∧ 0 < p) := by show _ ∧ _; omega

  have k7 : (p : Int) ≤ p := by omega
  clear hp hq
  have H : Hid (BS w (some ⟨b, off, none⟩) p zs) := h
  clear h
  go_enter Tryd.func4, Tryd.ntmps4
  go_wp2_with fail
  refine scope_from ?_
  go_wp2_with fail
  refine (HH.out _ (H.out.below (below2 w _ _))).mono ?_
  unfold Eth.ethV
  rintro e W1 ⟨rfl, hb⟩
  obtain ⟨B_W1, R2_W1, R4_W1⟩ : Hid _ ∧ Hid _ ∧ Hid _ := fFirst hb
  clear hb HH
  go_wp2_with (refine Ca.wpList_store_at rfl 25 _ _ rfl (w.heap.size + 1) 0 (zeroPk) #[.int .u64 d, .int .u64 s, .bool tg, .int .i64 tag, .int .i64 2048] 34 rfl rfl R4_W1.out (by kernel_rfl) (Nat.le_of_ble_eq_true (by kernel_rfl)) (by kernel_rfl) ?_)
  intro W2 y1 y2 y3 y4
  obtain ⟨B_W2, R2_W2, R4_W2⟩ := fStore B_W1.out R2_W1.out (rowAs Ep2.out y1) y2 y4
  clear y1 y2 y3 y4
  clear B_W1 R2_W1 R4_W1
  have c4 := (Ca.cell_row R4_W2.out 4).trans (show _ = some (Value.int .i64 2048) by rw [← Ep2.out]; kernel_rfl)
  have c11 := (Ca.cell_row R4_W2.out 11).trans (show _ = some (Value.bool false) by rw [← Ep2.out]; kernel_rfl)
  have f11 := frozen_of_row W2 _ 11 _ _ R4_W2.out
  go_wp2_with fail
  go_step3
  show FromLabel _ _ _ _ _ _
  refine from_label rfl ?_
  go_wp2_with fail
  have RW : Hid _ := rowAs Ep3.out (Ca.row_setCell R4_W2.out 11 (.bool true))
  have ZW : Hid _ := zSet B_W2.out R2_W2.out 11 (.bool true)
  have BW : Hid _ := bSet B_W2.out 11 (.bool true)
  refine (HI.out _ ((H.out.below BW.out).drop (by have := HN.out; omega) A (by have := HN.out; omega))).mono ?_
  rintro e W3 ⟨rfl, hb⟩
  obtain ⟨B_W3, R2_W3, R4_W3⟩ := fCall BW.out ZW.out RW.out hb
  clear hb HI RW ZW BW B_W2 R2_W2 R4_W2 c4 c11 f11
  have hs_p4 : 12 + (#[.int .i64 tos, .int .i64 id, .int .i64 fr, .int .i64 ttl, .int .i64 pr, .int .u32 src, .int .u32 dst, .string (strOfNums io)] : Array Value).size ≤ p3.size := by rw [Zp3.out]; exact Nat.le_of_ble_eq_true (by kernel_rfl)
  go_wp2_with (refine Ca.wpList_store_at rfl 30 _ _ rfl (w.heap.size + 1) 12 p3 #[.int .i64 tos, .int .i64 id, .int .i64 fr, .int .i64 ttl, .int .i64 pr, .int .u32 src, .int .u32 dst, .string (strOfNums io)] 34 rfl rfl R4_W3.out (by kernel_rfl) hs_p4 (by kernel_rfl) ?_)
  intro W4 y1 y2 y3 y4
  obtain ⟨B_W4, R2_W4, R4_W4⟩ := fStore B_W3.out R2_W3.out (rowAs Ep4.out y1) y2 y4
  clear y1 y2 y3 y4 hs_p4
  clear B_W3 R2_W3 R4_W3
  have hx8 : p4.extract 12 (12 + 8) = #[.int .i64 tos, .int .i64 id, .int .i64 fr, .int .i64 ttl, .int .i64 pr, .int .u32 src, .int .u32 dst, .string (strOfNums io)] := by rw [← Ep4.out, ← Ep3.out, ← Ep2.out]; kernel_rfl
  have hx9 : (p4.extract 12 (12 + 8)).size = 8 := by rw [hx8]; rfl
  go_wp2_with (refine Ca.wpList_load_at rfl 30 _ rfl (w.heap.size + 1) 12 8 rfl p4 34 _ R4_W4.out Tryd.underlying30 rfl hx9 (by kernel_rfl) ?_; rw [hx8])
  clear hx8 hx9
  refine (ipwhole_any tos id fr ttl pr src dst io _).mono ?_
  rintro e W5 ⟨rfl, hb⟩
  rw [hw]
  obtain ⟨B_W5, R2_W5, R4_W5⟩ := fCall B_W4.out R2_W4.out R4_W4.out hb
  clear B_W4 R2_W4 R4_W4
  clear hb
  have cv : (convert 22 9 (.slice (some ⟨b, off, none⟩) 0 0)).run Tryd.prog W5 = .ok (.string dd) W5 := by
    rw [← hdd, Nat.sub_self, List.take_zero]
    exact conv9 0 (BS.empty (w := W5) (some ⟨b, off, none⟩))
  have hs_p5 : 20 + (#[.int .i64 0, .int .i64 0, .int .i64 0, .int .u32 0, .int .i64 0, .int .i64 0, .bool false, .int .u32 0, .int .u32 0, .int .i64 0, .int .i64 0, .int .i64 0, .string ⟨#[]⟩, .string dd] : Array Value).size ≤ p4.size := by rw [Zp4.out]; exact Nat.le_of_ble_eq_true (by kernel_rfl)
  go_wp2_with (refine Ca.wpList_store_at rfl 32 _ _ rfl (w.heap.size + 1) 20 p4 #[.int .i64 0, .int .i64 0, .int .i64 0, .int .u32 0, .int .i64 0, .int .i64 0, .bool false, .int .u32 0, .int .u32 0, .int .i64 0, .int .i64 0, .int .i64 0, .string ⟨#[]⟩, .string dd] 34 rfl rfl R4_W5.out (by kernel_rfl) hs_p5 (by kernel_rfl) ?_)
  intro W6 y1 y2 y3 y4
  obtain ⟨B_W6, R2_W6, R4_W6⟩ := fStore B_W5.out R2_W5.out (rowAs Ep5.out y1) y2 y4
  clear y1 y2 y3 y4 hs_p5
  clear B_W5 R2_W5 R4_W5
  clear cv
  have c35 := (Ca.cell_row R4_W6.out 35).trans (show _ = some (Value.string ⟨#[]⟩) by rw [← Ep5.out, ← Ep4.out, ← Ep3.out, ← Ep2.out]; kernel_rfl)
  have f35 := frozen_of_row W6 _ 35 _ _ R4_W6.out
  have cw : (convert 22 9 (.slice (some ⟨b, off, none⟩) 0 0)).run Tryd.prog W6 = .ok (.string pd) W6 := by
    rw [← hpd, List.drop_eq_nil_of_le (by have := H.out.len; omega)]
    exact conv9 0 (BS.empty (w := W6) (some ⟨b, off, none⟩))
  have RW : Hid _ := rowAs Ep6.out (Ca.row_setCell R4_W6.out 35 (.string pd))
  have ZW : Hid _ := zSet B_W6.out R2_W6.out 35 (.string pd)
  have BW : Hid _ := bSet B_W6.out 35 (.string pd)
  clear B_W6 R2_W6 R4_W6 hpd H
  go_wp2_with fail
  go_step3
  show FromLabel _ _ _ _ _ _
  refine from_label rfl ?_
  go_wp2_with (first
    | refine wpList_load_row rfl 34 _ rfl (w.heap.size + 1) rfl 34 p6 (0, 0) _ RW.out Tryd.underlying34 rfl (info36 Zp6.out) ?_
    | refine Ca.wpList_store_row rfl 34 _ _ rfl (w.heap.size) zeroPk p6 34 rfl rfl ZW.out (info36 Zp6.out) (Eq.trans (b := 36) rfl Zp6.out.symm) HRO.out ?_
    | fail)
  intro W9 y1 y2 y3 y4
  go_wp2
  simp only [Exit.jumpTo]
  exact bodyPost_ret (results_pk (p := 2) (u := 3) rfl _ _ (w.heap.size) p6 rfl y1 Zp6.out) rfl ⟨rfl, BW.out.trans (y4.mono (Nat.le_refl _))⟩
set_option maxHeartbeats 4000000 in
theorem parse_l4badAB (w : World) (b off A p : Nat) (zs : List Int) (h : BS w (some ⟨b, off, none⟩) p zs) (hs tt : Nat) (hp : p = A + hs) (hq : p = A + tt) (h0 : 0 < hs) (hA0 : 0 < A)  (d s tag : Int) (tg : Bool) (tos id fr ttl pr src dst : Int) (io : List Int) (hw : wholeB fr = true) (k ty co re sp dp : Int) (ns : Bool) (sq ak fl wi ur : Int) (lo ds : List Int) (f : Int) (hf : (f != 0) = true) (HH : Hid (∀ W, BS W (some ⟨b, off, none⟩) p zs → Calls Tryd.prog 9 #[.slice (some ⟨b, off, none⟩) p p] W fun e w' => e = .returned (Eth.ethV d s tg tag 2048 A 0) ∧ Below W.heap.size W w'))
    (HI : Hid (∀ W, BS W (some ⟨b, off + A, none⟩) (p - A) (zs.drop A) → Calls Tryd.prog 11 #[.slice (some ⟨b, off + A, none⟩) (p - A) (p - A)] W fun e w' => e = .returned (.tuple #[.agg #[.int .i64 tos, .int .i64 id, .int .i64 fr, .int .i64 ttl, .int .i64 pr, .int .u32 src, .int .u32 dst, .string (strOfNums io)], .int .i64 hs, .int .i64 tt, .int .i64 0]) ∧ Below W.heap.size W w'))
    (HL : Hid (∀ W, BS W (some ⟨b, off, none⟩) p zs → Calls Tryd.prog 13 #[.int .u32 src, .int .u32 dst, .int .i64 pr, .slice (some ⟨b, off, none⟩) 0 0] W fun e w' => e = .returned (.tuple #[.agg #[.int .i64 k, .int .i64 ty, .int .i64 co, .int .u32 re, .int .i64 sp, .int .i64 dp, .bool ns, .int .u32 sq, .int .u32 ak, .int .i64 fl, .int .i64 wi, .int .i64 ur, .string (strOfNums lo), .string (strOfNums ds)], .int .i64 f]) ∧ Below W.heap.size W w')) :
    Calls Tryd.prog 4 #[.slice (some ⟨b, off, none⟩) p p] w fun e w' => e = .returned (.tuple #[.agg zeroPk, .int .i64 f]) ∧ Below w.heap.size w w' := by
  obtain ⟨p2, Ep2, Zp2⟩ := @letP (Ca.putC zeroPk 0 (#[.int .u64 d, .int .u64 s, .bool tg, .int .i64 tag, .int .i64 2048]).toList) (by kernel_rfl)
  obtain ⟨p3, Ep3, Zp3⟩ := @letP (p2.setIfInBounds 11 (.bool true)) (szSet Zp2.out)
  obtain ⟨p4, Ep4, Zp4⟩ := @letP (Ca.putC p3 12 (#[.int .i64 tos, .int .i64 id, .int .i64 fr, .int .i64 ttl, .int .i64 pr, .int .u32 src, .int .u32 dst, .string (strOfNums io)]).toList) (szPut Zp3.out)
  obtain ⟨p5, Ep5, Zp5⟩ := @letP (Ca.putC p4 20 (#[.int .i64 k, .int .i64 ty, .int .i64 co, .int .u32 re, .int .i64 sp, .int .i64 dp, .bool ns, .int .u32 sq, .int .u32 ak, .int .i64 fl, .int .i64 wi, .int .i64 ur, .string (strOfNums lo), .string (strOfNums ds)]).toList) (szPut Zp4.out)
  have hm : A ≤ p := by omega
  have hrm := h.room
  have k1 : (A : Int) + (hs : Int) = (p : Int) := by omega
  have k2 : (A : Int) + (tt : Int) = (p : Int) := by omega
  have w1 : IntKind.i64.wrap (p : Int) = p := by simp [IntKind.wrap, IntKind.bits, IntKind.signed]; omega
  have HN : Hid (A ≤ p ∧ p ≤ p ∧ p ≤ p ∧ p ≤ p ∧ 0 < p) := by show _ ∧ _; omega

  have k7 : (p : Int) ≤ p := by omega
  clear hp hq
  have H : Hid (BS w (some ⟨b, off, none⟩) p zs) := h
  clear h
  go_enter Tryd.func4, Tryd.ntmps4
  go_wp2_with fail
  refine scope_from ?_
  go_wp2_with fail
  refine (HH.out _ (H.out.below (below2 w _ _))).mono ?_
  unfold Eth.ethV
  rintro e W1 ⟨rfl, hb⟩
  obtain ⟨B_W1, R2_W1, R4_W1⟩ : Hid _ ∧ Hid _ ∧ Hid _ := fFirst hb
  clear hb HH
  go_wp2_with (refine Ca.wpList_store_at rfl 25 _ _ rfl (w.heap.size + 1) 0 (zeroPk) #[.int .u64 d, .int .u64 s, .bool tg, .int .i64 tag, .int .i64 2048] 34 rfl rfl R4_W1.out (by kernel_rfl) (Nat.le_of_ble_eq_true (by kernel_rfl)) (by kernel_rfl) ?_)
  intro W2 y1 y2 y3 y4
  obtain ⟨B_W2, R2_W2, R4_W2⟩ := fStore B_W1.out R2_W1.out (rowAs Ep2.out y1) y2 y4
  clear y1 y2 y3 y4
  clear B_W1 R2_W1 R4_W1
  have c4 := (Ca.cell_row R4_W2.out 4).trans (show _ = some (Value.int .i64 2048) by rw [← Ep2.out]; kernel_rfl)
  have c11 := (Ca.cell_row R4_W2.out 11).trans (show _ = some (Value.bool false) by rw [← Ep2.out]; kernel_rfl)
  have f11 := frozen_of_row W2 _ 11 _ _ R4_W2.out
  go_wp2_with fail
  go_step3
  show FromLabel _ _ _ _ _ _
  refine from_label rfl ?_
  go_wp2_with fail
  have RW : Hid _ := rowAs Ep3.out (Ca.row_setCell R4_W2.out 11 (.bool true))
  have ZW : Hid _ := zSet B_W2.out R2_W2.out 11 (.bool true)
  have BW : Hid _ := bSet B_W2.out 11 (.bool true)
  refine (HI.out _ ((H.out.below BW.out).drop (by have := HN.out; omega) A (by have := HN.out; omega))).mono ?_
  rintro e W3 ⟨rfl, hb⟩
  obtain ⟨B_W3, R2_W3, R4_W3⟩ := fCall BW.out ZW.out RW.out hb
  clear hb HI RW ZW BW B_W2 R2_W2 R4_W2 c4 c11 f11
  have hs_p4 : 12 + (#[.int .i64 tos, .int .i64 id, .int .i64 fr, .int .i64 ttl, .int .i64 pr, .int .u32 src, .int .u32 dst, .string (strOfNums io)] : Array Value).size ≤ p3.size := by rw [Zp3.out]; exact Nat.le_of_ble_eq_true (by kernel_rfl)
  go_wp2_with (refine Ca.wpList_store_at rfl 30 _ _ rfl (w.heap.size + 1) 12 p3 #[.int .i64 tos, .int .i64 id, .int .i64 fr, .int .i64 ttl, .int .i64 pr, .int .u32 src, .int .u32 dst, .string (strOfNums io)] 34 rfl rfl R4_W3.out (by kernel_rfl) hs_p4 (by kernel_rfl) ?_)
  intro W4 y1 y2 y3 y4
  obtain ⟨B_W4, R2_W4, R4_W4⟩ := fStore B_W3.out R2_W3.out (rowAs Ep4.out y1) y2 y4
  clear y1 y2 y3 y4 hs_p4
  clear B_W3 R2_W3 R4_W3
  have hx8 : p4.extract 12 (12 + 8) = #[.int .i64 tos, .int .i64 id, .int .i64 fr, .int .i64 ttl, .int .i64 pr, .int .u32 src, .int .u32 dst, .string (strOfNums io)] := by rw [← Ep4.out, ← Ep3.out, ← Ep2.out]; kernel_rfl
  have hx9 : (p4.extract 12 (12 + 8)).size = 8 := by rw [hx8]; rfl
  go_wp2_with (refine Ca.wpList_load_at rfl 30 _ rfl (w.heap.size + 1) 12 8 rfl p4 34 _ R4_W4.out Tryd.underlying30 rfl hx9 (by kernel_rfl) ?_; rw [hx8])
  clear hx8 hx9
  refine (ipwhole_any tos id fr ttl pr src dst io _).mono ?_
  rintro e W5 ⟨rfl, hb⟩
  rw [hw]
  obtain ⟨B_W5, R2_W5, R4_W5⟩ := fCall B_W4.out R2_W4.out R4_W4.out hb
  clear B_W4 R2_W4 R4_W4
  clear hb
  have c17 := (Ca.cell_row R4_W5.out 17).trans (show _ = some (Value.int .u32 src) by rw [← Ep4.out, ← Ep3.out, ← Ep2.out]; kernel_rfl)
  have c18 := (Ca.cell_row R4_W5.out 18).trans (show _ = some (Value.int .u32 dst) by rw [← Ep4.out, ← Ep3.out, ← Ep2.out]; kernel_rfl)
  have c16 := (Ca.cell_row R4_W5.out 16).trans (show _ = some (Value.int .i64 pr) by rw [← Ep4.out, ← Ep3.out, ← Ep2.out]; kernel_rfl)
  go_wp2_with fail
  clear c16 c17 c18
  refine (HL.out _ (H.out.below B_W5.out)).mono ?_
  rintro e W7 ⟨rfl, hb⟩
  obtain ⟨B_W7, R2_W7, R4_W7⟩ := fCall B_W5.out R2_W5.out R4_W5.out hb
  clear B_W5 R2_W5 R4_W5
  clear hb HL
  have hs_p5 : 20 + (#[.int .i64 k, .int .i64 ty, .int .i64 co, .int .u32 re, .int .i64 sp, .int .i64 dp, .bool ns, .int .u32 sq, .int .u32 ak, .int .i64 fl, .int .i64 wi, .int .i64 ur, .string (strOfNums lo), .string (strOfNums ds)] : Array Value).size ≤ p4.size := by rw [Zp4.out]; exact Nat.le_of_ble_eq_true (by kernel_rfl)
  go_wp2_with (refine Ca.wpList_store_at rfl 32 _ _ rfl (w.heap.size + 1) 20 p4 #[.int .i64 k, .int .i64 ty, .int .i64 co, .int .u32 re, .int .i64 sp, .int .i64 dp, .bool ns, .int .u32 sq, .int .u32 ak, .int .i64 fl, .int .i64 wi, .int .i64 ur, .string (strOfNums lo), .string (strOfNums ds)] 34 rfl rfl R4_W7.out (by kernel_rfl) hs_p5 (by kernel_rfl) ?_)
  intro W6 y1 y2 y3 y4
  obtain ⟨B_W6, R2_W6, R4_W6⟩ := fStore B_W7.out R2_W7.out (rowAs Ep5.out y1) y2 y4
  clear y1 y2 y3 y4 hs_p5
  clear B_W7 R2_W7 R4_W7
  go_wp2_with fail
  go_step3
  show FromLabel _ _ _ _ _ _
  refine from_label rfl ?_
  go_wp2_with (refine Ca.wpList_store_row rfl 34 _ _ rfl (w.heap.size) zeroPk zeroPk 34 rfl rfl R2_W6.out (info36 zsize) rfl one36 ?_)
  intro W9 y1 y2 y3 y4
  go_wp2
  simp only [Exit.jumpTo]
  exact bodyPost_ret (results_pk (p := 2) (u := 3) rfl _ _ (w.heap.size) zeroPk rfl y1 zsize) rfl ⟨rfl, B_W6.out.trans (y4.mono (Nat.le_refl _))⟩
set_option maxHeartbeats 4000000 in
theorem parse_okAB (w : World) (b off A p : Nat) (zs : List Int) (h : BS w (some ⟨b, off, none⟩) p zs) (hs tt : Nat) (hp : p = A + hs) (hq : p = A + tt) (h0 : 0 < hs) (hA0 : 0 < A)  (d s tag : Int) (tg : Bool) (tos id fr ttl pr src dst : Int) (io : List Int) (hw : wholeB fr = true) (k ty co re sp dp : Int) (ns : Bool) (sq ak fl wi ur : Int) (lo ds : List Int) (pd : ByteArray) (hpd : strOfNums (zs.drop p) = pd) (HH : Hid (∀ W, BS W (some ⟨b, off, none⟩) p zs → Calls Tryd.prog 9 #[.slice (some ⟨b, off, none⟩) p p] W fun e w' => e = .returned (Eth.ethV d s tg tag 2048 A 0) ∧ Below W.heap.size W w'))
    (HI : Hid (∀ W, BS W (some ⟨b, off + A, none⟩) (p - A) (zs.drop A) → Calls Tryd.prog 11 #[.slice (some ⟨b, off + A, none⟩) (p - A) (p - A)] W fun e w' => e = .returned (.tuple #[.agg #[.int .i64 tos, .int .i64 id, .int .i64 fr, .int .i64 ttl, .int .i64 pr, .int .u32 src, .int .u32 dst, .string (strOfNums io)], .int .i64 hs, .int .i64 tt, .int .i64 0]) ∧ Below W.heap.size W w'))
    (HL : Hid (∀ W, BS W (some ⟨b, off, none⟩) p zs → Calls Tryd.prog 13 #[.int .u32 src, .int .u32 dst, .int .i64 pr, .slice (some ⟨b, off, none⟩) 0 0] W fun e w' => e = .returned (.tuple #[.agg #[.int .i64 k, .int .i64 ty, .int .i64 co, .int .u32 re, .int .i64 sp, .int .i64 dp, .bool ns, .int .u32 sq, .int .u32 ak, .int .i64 fl, .int .i64 wi, .int .i64 ur, .string (strOfNums lo), .string (strOfNums ds)], .int .i64 0]) ∧ Below W.heap.size W w')) :
    Calls Tryd.prog 4 #[.slice (some ⟨b, off, none⟩) p p] w fun e w' => e = .returned (.tuple #[.agg ((Ca.putC (Ca.putC ((Ca.putC zeroPk 0 (#[.int .u64 d, .int .u64 s, .bool tg, .int .i64 tag, .int .i64 2048]).toList).setIfInBounds 11 (.bool true)) 12 (#[.int .i64 tos, .int .i64 id, .int .i64 fr, .int .i64 ttl, .int .i64 pr, .int .u32 src, .int .u32 dst, .string (strOfNums io)]).toList) 20 (#[.int .i64 k, .int .i64 ty, .int .i64 co, .int .u32 re, .int .i64 sp, .int .i64 dp, .bool ns, .int .u32 sq, .int .u32 ak, .int .i64 fl, .int .i64 wi, .int .i64 ur, .string (strOfNums lo), .string (strOfNums ds)]).toList).setIfInBounds 35 (.string pd)), .int .i64 0]) ∧ Below w.heap.size w w' := by
  obtain ⟨p2, Ep2, Zp2⟩ := @letP (Ca.putC zeroPk 0 (#[.int .u64 d, .int .u64 s, .bool tg, .int .i64 tag, .int .i64 2048]).toList) (by kernel_rfl)
  obtain ⟨p3, Ep3, Zp3⟩ := @letP (p2.setIfInBounds 11 (.bool true)) (szSet Zp2.out)
  obtain ⟨p4, Ep4, Zp4⟩ := @letP (Ca.putC p3 12 (#[.int .i64 tos, .int .i64 id, .int .i64 fr, .int .i64 ttl, .int .i64 pr, .int .u32 src, .int .u32 dst, .string (strOfNums io)]).toList) (szPut Zp3.out)
  obtain ⟨p5, Ep5, Zp5⟩ := @letP (Ca.putC p4 20 (#[.int .i64 k, .int .i64 ty, .int .i64 co, .int .u32 re, .int .i64 sp, .int .i64 dp, .bool ns, .int .u32 sq, .int .u32 ak, .int .i64 fl, .int .i64 wi, .int .i64 ur, .string (strOfNums lo), .string (strOfNums ds)]).toList) (szPut Zp4.out)
  obtain ⟨p6, Ep6, Zp6⟩ := @letP (p5.setIfInBounds 35 (.string pd)) (szSet Zp5.out)
  have HRO : Hid (p6.all (·.oneCell') = true) := by show _ = _; rw [← Ep6.out, ← Ep5.out, ← Ep4.out, ← Ep3.out, ← Ep2.out]; kernel_rfl
  rw [Ep2.out, Ep3.out, Ep4.out, Ep5.out, Ep6.out]
  have hm : A ≤ p := by omega
  have hrm := h.room
  have k1 : (A : Int) + (hs : Int) = (p : Int) := by omega
  have k2 : (A : Int) + (tt : Int) = (p : Int) := by omega
  have w1 : IntKind.i64.wrap (p : Int) = p := by simp [IntKind.wrap, IntKind.bits, IntKind.signed]; omega
  have HN : Hid (A ≤ p ∧ p ≤ p ∧ p ≤ p ∧ p ≤ p ∧ 0 < p) := by show _ ∧ _; omega

  have k7 : (p : Int) ≤ p := by omega
  clear hp hq
  have H : Hid (BS w (some ⟨b, off, none⟩) p zs) := h
  clear h
  go_enter Tryd.func4, Tryd.ntmps4
  go_wp2_with fail
  refine scope_from ?_
  go_wp2_with fail
  refine (HH.out _ (H.out.below (below2 w _ _))).mono ?_
  unfold Eth.ethV
  rintro e W1 ⟨rfl, hb⟩
  obtain ⟨B_W1, R2_W1, R4_W1⟩ : Hid _ ∧ Hid _ ∧ Hid _ := fFirst hb
  clear hb HH
  go_wp2_with (refine Ca.wpList_store_at rfl 25 _ _ rfl (w.heap.size + 1) 0 (zeroPk) #[.int .u64 d, .int .u64 s, .bool tg, .int .i64 tag, .int .i64 2048] 34 rfl rfl R4_W1.out (by kernel_rfl) (Nat.le_of_ble_eq_true (by kernel_rfl)) (by kernel_rfl) ?_)
  intro W2 y1 y2 y3 y4
  obtain ⟨B_W2, R2_W2, R4_W2⟩ := fStore B_W1.out R2_W1.out (rowAs Ep2.out y1) y2 y4
  clear y1 y2 y3 y4
  clear B_W1 R2_W1 R4_W1
  have c4 := (Ca.cell_row R4_W2.out 4).trans (show _ = some (Value.int .i64 2048) by rw [← Ep2.out]; kernel_rfl)
  have c11 := (Ca.cell_row R4_W2.out 11).trans (show _ = some (Value.bool false) by rw [← Ep2.out]; kernel_rfl)
  have f11 := frozen_of_row W2 _ 11 _ _ R4_W2.out
  go_wp2_with fail
  go_step3
  show FromLabel _ _ _ _ _ _
  refine from_label rfl ?_
  go_wp2_with fail
  have RW : Hid _ := rowAs Ep3.out (Ca.row_setCell R4_W2.out 11 (.bool true))
  have ZW : Hid _ := zSet B_W2.out R2_W2.out 11 (.bool true)
  have BW : Hid _ := bSet B_W2.out 11 (.bool true)
  refine (HI.out _ ((H.out.below BW.out).drop (by have := HN.out; omega) A (by have := HN.out; omega))).mono ?_
  rintro e W3 ⟨rfl, hb⟩
  obtain ⟨B_W3, R2_W3, R4_W3⟩ := fCall BW.out ZW.out RW.out hb
  clear hb HI RW ZW BW B_W2 R2_W2 R4_W2 c4 c11 f11
  have hs_p4 : 12 + (#[.int .i64 tos, .int .i64 id, .int .i64 fr, .int .i64 ttl, .int .i64 pr, .int .u32 src, .int .u32 dst, .string (strOfNums io)] : Array Value).size ≤ p3.size := by rw [Zp3.out]; exact Nat.le_of_ble_eq_true (by kernel_rfl)
  go_wp2_with (refine Ca.wpList_store_at rfl 30 _ _ rfl (w.heap.size + 1) 12 p3 #[.int .i64 tos, .int .i64 id, .int .i64 fr, .int .i64 ttl, .int .i64 pr, .int .u32 src, .int .u32 dst, .string (strOfNums io)] 34 rfl rfl R4_W3.out (by kernel_rfl) hs_p4 (by kernel_rfl) ?_)
  intro W4 y1 y2 y3 y4
  obtain ⟨B_W4, R2_W4, R4_W4⟩ := fStore B_W3.out R2_W3.out (rowAs Ep4.out y1) y2 y4
  clear y1 y2 y3 y4 hs_p4
  clear B_W3 R2_W3 R4_W3
  have hx8 : p4.extract 12 (12 + 8) = #[.int .i64 tos, .int .i64 id, .int .i64 fr, .int .i64 ttl, .int .i64 pr, .int .u32 src, .int .u32 dst, .string (strOfNums io)] := by rw [← Ep4.out, ← Ep3.out, ← Ep2.out]; kernel_rfl
  have hx9 : (p4.extract 12 (12 + 8)).size = 8 := by rw [hx8]; rfl
  go_wp2_with (refine Ca.wpList_load_at rfl 30 _ rfl (w.heap.size + 1) 12 8 rfl p4 34 _ R4_W4.out Tryd.underlying30 rfl hx9 (by kernel_rfl) ?_; rw [hx8])
  clear hx8 hx9
  refine (ipwhole_any tos id fr ttl pr src dst io _).mono ?_
  rintro e W5 ⟨rfl, hb⟩
  rw [hw]
  obtain ⟨B_W5, R2_W5, R4_W5⟩ := fCall B_W4.out R2_W4.out R4_W4.out hb
  clear B_W4 R2_W4 R4_W4
  clear hb
  have c17 := (Ca.cell_row R4_W5.out 17).trans (show _ = some (Value.int .u32 src) by rw [← Ep4.out, ← Ep3.out, ← Ep2.out]; kernel_rfl)
  have c18 := (Ca.cell_row R4_W5.out 18).trans (show _ = some (Value.int .u32 dst) by rw [← Ep4.out, ← Ep3.out, ← Ep2.out]; kernel_rfl)
  have c16 := (Ca.cell_row R4_W5.out 16).trans (show _ = some (Value.int .i64 pr) by rw [← Ep4.out, ← Ep3.out, ← Ep2.out]; kernel_rfl)
  go_wp2_with fail
  clear c16 c17 c18
  refine (HL.out _ (H.out.below B_W5.out)).mono ?_
  rintro e W7 ⟨rfl, hb⟩
  obtain ⟨B_W7, R2_W7, R4_W7⟩ := fCall B_W5.out R2_W5.out R4_W5.out hb
  clear B_W5 R2_W5 R4_W5
  clear hb HL
  have hs_p5 : 20 + (#[.int .i64 k, .int .i64 ty, .int .i64 co, .int .u32 re, .int .i64 sp, .int .i64 dp, .bool ns, .int .u32 sq, .int .u32 ak, .int .i64 fl, .int .i64 wi, .int .i64 ur, .string (strOfNums lo), .string (strOfNums ds)] : Array Value).size ≤ p4.size := by rw [Zp4.out]; exact Nat.le_of_ble_eq_true (by kernel_rfl)
  go_wp2_with (refine Ca.wpList_store_at rfl 32 _ _ rfl (w.heap.size + 1) 20 p4 #[.int .i64 k, .int .i64 ty, .int .i64 co, .int .u32 re, .int .i64 sp, .int .i64 dp, .bool ns, .int .u32 sq, .int .u32 ak, .int .i64 fl, .int .i64 wi, .int .i64 ur, .string (strOfNums lo), .string (strOfNums ds)] 34 rfl rfl R4_W7.out (by kernel_rfl) hs_p5 (by kernel_rfl) ?_)
  intro W6 y1 y2 y3 y4
  obtain ⟨B_W6, R2_W6, R4_W6⟩ := fStore B_W7.out R2_W7.out (rowAs Ep5.out y1) y2 y4
  clear y1 y2 y3 y4 hs_p5
  clear B_W7 R2_W7 R4_W7
  have c35 := (Ca.cell_row R4_W6.out 35).trans (show _ = some (Value.string ⟨#[]⟩) by rw [← Ep5.out, ← Ep4.out, ← Ep3.out, ← Ep2.out]; kernel_rfl)
  have f35 := frozen_of_row W6 _ 35 _ _ R4_W6.out
  have cw : (convert 22 9 (.slice (some ⟨b, off, none⟩) 0 0)).run Tryd.prog W6 = .ok (.string pd) W6 := by
    rw [← hpd, List.drop_eq_nil_of_le (by have := H.out.len; omega)]
    exact conv9 0 (BS.empty (w := W6) (some ⟨b, off, none⟩))
  have RW : Hid _ := rowAs Ep6.out (Ca.row_setCell R4_W6.out 35 (.string pd))
  have ZW : Hid _ := zSet B_W6.out R2_W6.out 35 (.string pd)
  have BW : Hid _ := bSet B_W6.out 35 (.string pd)
  clear B_W6 R2_W6 R4_W6 hpd H
  go_wp2_with fail
  go_step3
  go_wp2_with (first
    | refine wpList_load_row rfl 34 _ rfl (w.heap.size + 1) rfl 34 p6 (0, 0) _ RW.out Tryd.underlying34 rfl (info36 Zp6.out) ?_
    | refine Ca.wpList_store_row rfl 34 _ _ rfl (w.heap.size) zeroPk p6 34 rfl rfl ZW.out (info36 Zp6.out) (Eq.trans (b := 36) rfl Zp6.out.symm) HRO.out ?_
    | fail)
  intro W9 y1 y2 y3 y4
  go_wp2
  simp only [Exit.jumpTo]
  exact bodyPost_ret (results_pk (p := 2) (u := 3) rfl _ _ (w.heap.size) p6 rfl y1 Zp6.out) rfl ⟨rfl, BW.out.trans (y4.mono (Nat.le_refl _))⟩
set_option maxHeartbeats 4000000 in
theorem parse_fragAC (w : World) (b off A p q : Nat) (zs : List Int) (h : BS w (some ⟨b, off, none⟩) q zs) (hs tt : Nat) (hp : p = A + hs) (hq : q = A + tt) (h0 : 0 < hs) (hA0 : 0 < A) (hst : hs ≤ tt) (hc1 : ¬ q = p) (d s tag : Int) (tg : Bool) (tos id fr ttl pr src dst : Int) (io : List Int) (hw : wholeB fr = false) (dd pd : ByteArray) (hdd : strOfNums ((zs.drop p).take (q - p)) = dd) (hpd : strOfNums (zs.drop q) = pd) (HH : Hid (∀ W, BS W (some ⟨b, off, none⟩) q zs → Calls Tryd.prog 9 #[.slice (some ⟨b, off, none⟩) q q] W fun e w' => e = .returned (Eth.ethV d s tg tag 2048 A 0) ∧ Below W.heap.size W w'))
    (HI : Hid (∀ W, BS W (some ⟨b, off + A, none⟩) (q - A) (zs.drop A) → Calls Tryd.prog 11 #[.slice (some ⟨b, off + A, none⟩) (q - A) (q - A)] W fun e w' => e = .returned (.tuple #[.agg #[.int .i64 tos, .int .i64 id, .int .i64 fr, .int .i64 ttl, .int .i64 pr, .int .u32 src, .int .u32 dst, .string (strOfNums io)], .int .i64 hs, .int .i64 tt, .int .i64 0]) ∧ Below W.heap.size W w'))
     :
    Calls Tryd.prog 4 #[.slice (some ⟨b, off, none⟩) q q] w fun e w' => e = .returned (.tuple #[.agg ((Ca.putC (Ca.putC ((Ca.putC zeroPk 0 (#[.int .u64 d, .int .u64 s, .bool tg, .int .i64 tag, .int .i64 2048]).toList).setIfInBounds 11 (.bool true)) 12 (#[.int .i64 tos, .int .i64 id, .int .i64 fr, .int .i64 ttl, .int .i64 pr, .int .u32 src, .int .u32 dst, .string (strOfNums io)]).toList) 20 (#[.int .i64 0, .int .i64 0, .int .i64 0, .int .u32 0, .int .i64 0, .int .i64 0, .bool false, .int .u32 0, .int .u32 0, .int .i64 0, .int .i64 0, .int .i64 0, .string ⟨#[]⟩, .string dd]).toList).setIfInBounds 35 (.string pd)), .int .i64 0]) ∧ Below w.heap.size w w' := by
  obtain ⟨p2, Ep2, Zp2⟩ := @letP (Ca.putC zeroPk 0 (#[.int .u64 d, .int .u64 s, .bool tg, .int .i64 tag, .int .i64 2048]).toList) (by kernel_rfl)
  obtain ⟨p3, Ep3, Zp3⟩ := @letP (p2.setIfInBounds 11 (.bool true)) (szSet Zp2.out)
  obtain ⟨p4, Ep4, Zp4⟩ := @letP (Ca.putC p3 12 (#[.int .i64 tos, .int .i64 id, .int .i64 fr, .int .i64 ttl, .int .i64 pr, .int .u32 src, .int .u32 dst, .string (strOfNums io)]).toList) (szPut Zp3.out)
  obtain ⟨p5, Ep5, Zp5⟩ := @letP (Ca.putC p4 20 (#[.int .i64 0, .int .i64 0, .int .i64 0, .int .u32 0, .int .i64 0, .int .i64 0, .bool false, .int .u32 0, .int .u32 0, .int .i64 0, .int .i64 0, .int .i64 0, .string ⟨#[]⟩, .string dd]).toList) (szPut Zp4.out)
  obtain ⟨p6, Ep6, Zp6⟩ := @letP (p5.setIfInBounds 35 (.string pd)) (szSet Zp5.out)
  have HRO : Hid (p6.all (·.oneCell') = true) := by show _ = _; rw [← Ep6.out, ← Ep5.out, ← Ep4.out, ← Ep3.out, ← Ep2.out]; kernel_rfl
  rw [Ep2.out, Ep3.out, Ep4.out, Ep5.out, Ep6.out]
  have hm : A ≤ q := by omega
  have hc : ¬ q = A := by omega
  have hrm := h.room
  have k1 : (A : Int) + (hs : Int) = (p : Int) := by omega
  have k2 : (A : Int) + (tt : Int) = (q : Int) := by omega
  have k3 : (p : Int) ≤ q := by omega
  have w1 : IntKind.i64.wrap (p : Int) = p := by simp [IntKind.wrap, IntKind.bits, IntKind.signed]; omega
  have w2 : IntKind.i64.wrap (q : Int) = q := by simp [IntKind.wrap, IntKind.bits, IntKind.signed]; omega
  have HN : Hid (A ≤ q ∧ q ≤ q ∧ q ≤ q ∧ p ≤ q ∧ 0 < p) := by show _ ∧ _; omega
  clear hp hq
  have H : Hid (BS w (some ⟨b, off, none⟩) q zs) := h
  clear h
  go_enter Tryd.func4, Tryd.ntmps4
  go_wp2_with fail
  refine scope_from ?_
  go_wp2_with fail
  refine (HH.out _ (H.out.below (below2 w _ _))).mono ?_
  unfold Eth.ethV
  rintro e W1 ⟨rfl, hb⟩
  obtain ⟨B_W1, R2_W1, R4_W1⟩ : Hid _ ∧ Hid _ ∧ Hid _ := fFirst hb
  clear hb HH
  go_wp2_with (refine Ca.wpList_store_at rfl 25 _ _ rfl (w.heap.size + 1) 0 (zeroPk) #[.int .u64 d, .int .u64 s, .bool tg, .int .i64 tag, .int .i64 2048] 34 rfl rfl R4_W1.out (by kernel_rfl) (Nat.le_of_ble_eq_true (by kernel_rfl)) (by kernel_rfl) ?_)
  intro W2 y1 y2 y3 y4
  obtain ⟨B_W2, R2_W2, R4_W2⟩ := fStore B_W1.out R2_W1.out (rowAs Ep2.out y1) y2 y4
  clear y1 y2 y3 y4
  clear B_W1 R2_W1 R4_W1
  have c4 := (Ca.cell_row R4_W2.out 4).trans (show _ = some (Value.int .i64 2048) by rw [← Ep2.out]; kernel_rfl)
  have c11 := (Ca.cell_row R4_W2.out 11).trans (show _ = some (Value.bool false) by rw [← Ep2.out]; kernel_rfl)
  have f11 := frozen_of_row W2 _ 11 _ _ R4_W2.out
  go_wp2_with fail
  go_step3
  show FromLabel _ _ _ _ _ _
  refine from_label rfl ?_
  go_wp2_with fail
  have RW : Hid _ := rowAs Ep3.out (Ca.row_setCell R4_W2.out 11 (.bool true))
  have ZW : Hid _ := zSet B_W2.out R2_W2.out 11 (.bool true)
  have BW : Hid _ := bSet B_W2.out 11 (.bool true)
  refine (HI.out _ ((H.out.below BW.out).drop (by have := HN.out; omega) A (by have := HN.out; omega))).mono ?_
  rintro e W3 ⟨rfl, hb⟩
  obtain ⟨B_W3, R2_W3, R4_W3⟩ := fCall BW.out ZW.out RW.out hb
  clear hb HI RW ZW BW B_W2 R2_W2 R4_W2 c4 c11 f11
  have hs_p4 : 12 + (#[.int .i64 tos, .int .i64 id, .int .i64 fr, .int .i64 ttl, .int .i64 pr, .int .u32 src, .int .u32 dst, .string (strOfNums io)] : Array Value).size ≤ p3.size := by rw [Zp3.out]; exact Nat.le_of_ble_eq_true (by kernel_rfl)
  go_wp2_with (refine Ca.wpList_store_at rfl 30 _ _ rfl (w.heap.size + 1) 12 p3 #[.int .i64 tos, .int .i64 id, .int .i64 fr, .int .i64 ttl, .int .i64 pr, .int .u32 src, .int .u32 dst, .string (strOfNums io)] 34 rfl rfl R4_W3.out (by kernel_rfl) hs_p4 (by kernel_rfl) ?_)
  intro W4 y1 y2 y3 y4
  obtain ⟨B_W4, R2_W4, R4_W4⟩ := fStore B_W3.out R2_W3.out (rowAs Ep4.out y1) y2 y4
  clear y1 y2 y3 y4 hs_p4
  clear B_W3 R2_W3 R4_W3
  have hx8 : p4.extract 12 (12 + 8) = #[.int .i64 tos, .int .i64 id, .int .i64 fr, .int .i64 ttl, .int .i64 pr, .int .u32 src, .int .u32 dst, .string (strOfNums io)] := by rw [← Ep4.out, ← Ep3.out, ← Ep2.out]; kernel_rfl
  have hx9 : (p4.extract 12 (12 + 8)).size = 8 := by rw [hx8]; rfl
  go_wp2_with (refine Ca.wpList_load_at rfl 30 _ rfl (w.heap.size + 1) 12 8 rfl p4 34 _ R4_W4.out Tryd.underlying30 rfl hx9 (by kernel_rfl) ?_; rw [hx8])
  clear hx8 hx9
  refine (ipwhole_any tos id fr ttl pr src dst io _).mono ?_
  rintro e W5 ⟨rfl, hb⟩
  rw [hw]
  obtain ⟨B_W5, R2_W5, R4_W5⟩ := fCall B_W4.out R2_W4.out R4_W4.out hb
  clear B_W4 R2_W4 R4_W4
  clear hb
  have cv : (convert 22 9 (.slice (some ⟨b, off + p, none⟩) (q - p) (q - p))).run Tryd.prog W5 = .ok (.string dd) W5 := by
    rw [← hdd]
    exact conv9 _ (((H.out.below B_W5.out).drop (by have := HN.out; omega) p (by have := HN.out; omega)).take (q - p) (by have := HN.out; omega))
  have hs_p5 : 20 + (#[.int .i64 0, .int .i64 0, .int .i64 0, .int .u32 0, .int .i64 0, .int .i64 0, .bool false, .int .u32 0, .int .u32 0, .int .i64 0, .int .i64 0, .int .i64 0, .string ⟨#[]⟩, .string dd] : Array Value).size ≤ p4.size := by rw [Zp4.out]; exact Nat.le_of_ble_eq_true (by kernel_rfl)
  go_wp2_with (refine Ca.wpList_store_at rfl 32 _ _ rfl (w.heap.size + 1) 20 p4 #[.int .i64 0, .int .i64 0, .int .i64 0, .int .u32 0, .int .i64 0, .int .i64 0, .bool false, .int .u32 0, .int .u32 0, .int .i64 0, .int .i64 0, .int .i64 0, .string ⟨#[]⟩, .string dd] 34 rfl rfl R4_W5.out (by kernel_rfl) hs_p5 (by kernel_rfl) ?_)
  intro W6 y1 y2 y3 y4
  obtain ⟨B_W6, R2_W6, R4_W6⟩ := fStore B_W5.out R2_W5.out (rowAs Ep5.out y1) y2 y4
  clear y1 y2 y3 y4 hs_p5
  clear B_W5 R2_W5 R4_W5
  clear cv
  have c35 := (Ca.cell_row R4_W6.out 35).trans (show _ = some (Value.string ⟨#[]⟩) by rw [← Ep5.out, ← Ep4.out, ← Ep3.out, ← Ep2.out]; kernel_rfl)
  have f35 := frozen_of_row W6 _ 35 _ _ R4_W6.out
  have cw : (convert 22 9 (.slice (some ⟨b, off, none⟩) 0 0)).run Tryd.prog W6 = .ok (.string pd) W6 := by
    rw [← hpd, List.drop_eq_nil_of_le (by have := H.out.len; omega)]
    exact conv9 0 (BS.empty (w := W6) (some ⟨b, off, none⟩))
  have RW : Hid _ := rowAs Ep6.out (Ca.row_setCell R4_W6.out 35 (.string pd))
  have ZW : Hid _ := zSet B_W6.out R2_W6.out 35 (.string pd)
  have BW : Hid _ := bSet B_W6.out 35 (.string pd)
  clear B_W6 R2_W6 R4_W6 hpd H
  go_wp2_with fail
  go_step3
  show FromLabel _ _ _ _ _ _
  refine from_label rfl ?_
  go_wp2_with (first
    | refine wpList_load_row rfl 34 _ rfl (w.heap.size + 1) rfl 34 p6 (0, 0) _ RW.out Tryd.underlying34 rfl (info36 Zp6.out) ?_
    | refine Ca.wpList_store_row rfl 34 _ _ rfl (w.heap.size) zeroPk p6 34 rfl rfl ZW.out (info36 Zp6.out) (Eq.trans (b := 36) rfl Zp6.out.symm) HRO.out ?_
    | fail)
  intro W9 y1 y2 y3 y4
  go_wp2
  simp only [Exit.jumpTo]
  exact bodyPost_ret (results_pk (p := 2) (u := 3) rfl _ _ (w.heap.size) p6 rfl y1 Zp6.out) rfl ⟨rfl, BW.out.trans (y4.mono (Nat.le_refl _))⟩
set_option maxHeartbeats 4000000 in
theorem parse_l4badAC (w : World) (b off A p q : Nat) (zs : List Int) (h : BS w (some ⟨b, off, none⟩) q zs) (hs tt : Nat) (hp : p = A + hs) (hq : q = A + tt) (h0 : 0 < hs) (hA0 : 0 < A) (hst : hs ≤ tt) (hc1 : ¬ q = p) (d s tag : Int) (tg : Bool) (tos id fr ttl pr src dst : Int) (io : List Int) (hw : wholeB fr = true) (k ty co re sp dp : Int) (ns : Bool) (sq ak fl wi ur : Int) (lo ds : List Int) (f : Int) (hf : (f != 0) = true) (HH : Hid (∀ W, BS W (some ⟨b, off, none⟩) q zs → Calls Tryd.prog 9 #[.slice (some ⟨b, off, none⟩) q q] W fun e w' => e = .returned (Eth.ethV d s tg tag 2048 A 0) ∧ Below W.heap.size W w'))
    (HI : Hid (∀ W, BS W (some ⟨b, off + A, none⟩) (q - A) (zs.drop A) → Calls Tryd.prog 11 #[.slice (some ⟨b, off + A, none⟩) (q - A) (q - A)] W fun e w' => e = .returned (.tuple #[.agg #[.int .i64 tos, .int .i64 id, .int .i64 fr, .int .i64 ttl, .int .i64 pr, .int .u32 src, .int .u32 dst, .string (strOfNums io)], .int .i64 hs, .int .i64 tt, .int .i64 0]) ∧ Below W.heap.size W w'))
    (HL : Hid (∀ W, BS W (some ⟨b, off, none⟩) q zs → Calls Tryd.prog 13 #[.int .u32 src, .int .u32 dst, .int .i64 pr, .slice (some ⟨b, off + p, none⟩) (q - p) (q - p)] W fun e w' => e = .returned (.tuple #[.agg #[.int .i64 k, .int .i64 ty, .int .i64 co, .int .u32 re, .int .i64 sp, .int .i64 dp, .bool ns, .int .u32 sq, .int .u32 ak, .int .i64 fl, .int .i64 wi, .int .i64 ur, .string (strOfNums lo), .string (strOfNums ds)], .int .i64 f]) ∧ Below W.heap.size W w')) :
    Calls Tryd.prog 4 #[.slice (some ⟨b, off, none⟩) q q] w fun e w' => e = .returned (.tuple #[.agg zeroPk, .int .i64 f]) ∧ Below w.heap.size w w' := by
  obtain ⟨p2, Ep2, Zp2⟩ := @letP (Ca.putC zeroPk 0 (#[.int .u64 d, .int .u64 s, .bool tg, .int .i64 tag, .int .i64 2048]).toList) (by kernel_rfl)
  obtain ⟨p3, Ep3, Zp3⟩ := @letP (p2.setIfInBounds 11 (.bool true)) (szSet Zp2.out)
  obtain ⟨p4, Ep4, Zp4⟩ := @letP (Ca.putC p3 12 (#[.int .i64 tos, .int .i64 id, .int .i64 fr, .int .i64 ttl, .int .i64 pr, .int .u32 src, .int .u32 dst, .string (strOfNums io)]).toList) (szPut Zp3.out)
  obtain ⟨p5, Ep5, Zp5⟩ := @letP (Ca.putC p4 20 (#[.int .i64 k, .int .i64 ty, .int .i64 co, .int .u32 re, .int .i64 sp, .int .i64 dp, .bool ns, .int .u32 sq, .int .u32 ak, .int .i64 fl, .int .i64 wi, .int .i64 ur, .string (strOfNums lo), .string (strOfNums ds)]).toList) (szPut Zp4.out)
  have hm : A ≤ q := by omega
  have hc : ¬ q = A := by omega
  have hrm := h.room
  have k1 : (A : Int) + (hs : Int) = (p : Int) := by omega
  have k2 : (A : Int) + (tt : Int) = (q : Int) := by omega
  have k3 : (p : Int) ≤ q := by omega
  have w1 : IntKind.i64.wrap (p : Int) = p := by simp [IntKind.wrap, IntKind.bits, IntKind.signed]; omega
  have w2 : IntKind.i64.wrap (q : Int) = q := by simp [IntKind.wrap, IntKind.bits, IntKind.signed]; omega
  have HN : Hid (A ≤ q ∧ q ≤ q ∧ q ≤ q ∧ p ≤ q ∧ 0 < p) := by show _ ∧ _; omega
  clear hp hq
  have H : Hid (BS w (some ⟨b, off, none⟩) q zs) := h
  clear h
  go_enter Tryd.func4, Tryd.ntmps4
  go_wp2_with fail
  refine scope_from ?_
  go_wp2_with fail
  refine (HH.out _ (H.out.below (below2 w _ _))).mono ?_
  unfold Eth.ethV
  rintro e W1 ⟨rfl, hb⟩
  obtain ⟨B_W1, R2_W1, R4_W1⟩ : Hid _ ∧ Hid _ ∧ Hid _ := fFirst hb
  clear hb HH
  go_wp2_with (refine Ca.wpList_store_at rfl 25 _ _ rfl (w.heap.size + 1) 0 (zeroPk) #[.int .u64 d, .int .u64 s, .bool tg, .int .i64 tag, .int .i64 2048] 34 rfl rfl R4_W1.out (by kernel_rfl) (Nat.le_of_ble_eq_true (by kernel_rfl)) (by kernel_rfl) ?_)
  intro W2 y1 y2 y3 y4
  obtain ⟨B_W2, R2_W2, R4_W2⟩ := fStore B_W1.out R2_W1.out (rowAs Ep2.out y1) y2 y4
  clear y1 y2 y3 y4
  clear B_W1 R2_W1 R4_W1
  have c4 := (Ca.cell_row R4_W2.out 4).trans (show _ = some (Value.int .i64 2048) by rw [← Ep2.out]; kernel_rfl)
  have c11 := (Ca.cell_row R4_W2.out 11).trans (show _ = some (Value.bool false) by rw [← Ep2.out]; kernel_rfl)
  have f11 := frozen_of_row W2 _ 11 _ _ R4_W2.out
  go_wp2_with fail
  go_step3
  show FromLabel _ _ _ _ _ _
  refine from_label rfl ?_
  go_wp2_with fail
  have RW : Hid _ := rowAs Ep3.out (Ca.row_setCell R4_W2.out 11 (.bool true))
  have ZW : Hid _ := zSet B_W2.out R2_W2.out 11 (.bool true)
  have BW : Hid _ := bSet B_W2.out 11 (.bool true)
  refine (HI.out _ ((H.out.below BW.out).drop (by have := HN.out; omega) A (by have := HN.out; omega))).mono ?_
  rintro e W3 ⟨rfl, hb⟩
  obtain ⟨B_W3, R2_W3, R4_W3⟩ := fCall BW.out ZW.out RW.out hb
  clear hb HI RW ZW BW B_W2 R2_W2 R4_W2 c4 c11 f11
  have hs_p4 : 12 + (#[.int .i64 tos, .int .i64 id, .int .i64 fr, .int .i64 ttl, .int .i64 pr, .int .u32 src, .int .u32 dst, .string (strOfNums io)] : Array Value).size ≤ p3.size := by rw [Zp3.out]; exact Nat.le_of_ble_eq_true (by kernel_rfl)
  go_wp2_with (refine Ca.wpList_store_at rfl 30 _ _ rfl (w.heap.size + 1) 12 p3 #[.int .i64 tos, .int .i64 id, .int .i64 fr, .int .i64 ttl, .int .i64 pr, .int .u32 src, .int .u32 dst, .string (strOfNums io)] 34 rfl rfl R4_W3.out (by kernel_rfl) hs_p4 (by kernel_rfl) ?_)
  intro W4 y1 y2 y3 y4
  obtain ⟨B_W4, R2_W4, R4_W4⟩ := fStore B_W3.out R2_W3.out (rowAs Ep4.out y1) y2 y4
  clear y1 y2 y3 y4 hs_p4
  clear B_W3 R2_W3 R4_W3
  have hx8 : p4.extract 12 (12 + 8) = #[.int .i64 tos, .int .i64 id, .int .i64 fr, .int .i64 ttl, .int .i64 pr, .int .u32 src, .int .u32 dst, .string (strOfNums io)] := by rw [← Ep4.out, ← Ep3.out, ← Ep2.out]; kernel_rfl
  have hx9 : (p4.extract 12 (12 + 8)).size = 8 := by rw [hx8]; rfl
  go_wp2_with (refine Ca.wpList_load_at rfl 30 _ rfl (w.heap.size + 1) 12 8 rfl p4 34 _ R4_W4.out Tryd.underlying30 rfl hx9 (by kernel_rfl) ?_; rw [hx8])
  clear hx8 hx9
  refine (ipwhole_any tos id fr ttl pr src dst io _).mono ?_
  rintro e W5 ⟨rfl, hb⟩
  rw [hw]
  obtain ⟨B_W5, R2_W5, R4_W5⟩ := fCall B_W4.out R2_W4.out R4_W4.out hb
  clear B_W4 R2_W4 R4_W4
  clear hb
  have c17 := (Ca.cell_row R4_W5.out 17).trans (show _ = some (Value.int .u32 src) by rw [← Ep4.out, ← Ep3.out, ← Ep2.out]; kernel_rfl)
  have c18 := (Ca.cell_row R4_W5.out 18).trans (show _ = some (Value.int .u32 dst) by rw [← Ep4.out, ← Ep3.out, ← Ep2.out]; kernel_rfl)
  have c16 := (Ca.cell_row R4_W5.out 16).trans (show _ = some (Value.int .i64 pr) by rw [← Ep4.out, ← Ep3.out, ← Ep2.out]; kernel_rfl)
  go_wp2_with fail
  clear c16 c17 c18
  refine (HL.out _ (H.out.below B_W5.out)).mono ?_
  rintro e W7 ⟨rfl, hb⟩
  obtain ⟨B_W7, R2_W7, R4_W7⟩ := fCall B_W5.out R2_W5.out R4_W5.out hb
  clear B_W5 R2_W5 R4_W5
  clear hb HL
  have hs_p5 : 20 + (#[.int .i64 k, .int .i64 ty, .int .i64 co, .int .u32 re, .int .i64 sp, .int .i64 dp, .bool ns, .int .u32 sq, .int .u32 ak, .int .i64 fl, .int .i64 wi, .int .i64 ur, .string (strOfNums lo), .string (strOfNums ds)] : Array Value).size ≤ p4.size := by rw [Zp4.out]; exact Nat.le_of_ble_eq_true (by kernel_rfl)
  go_wp2_with (refine Ca.wpList_store_at rfl 32 _ _ rfl (w.heap.size + 1) 20 p4 #[.int .i64 k, .int .i64 ty, .int .i64 co, .int .u32 re, .int .i64 sp, .int .i64 dp, .bool ns, .int .u32 sq, .int .u32 ak, .int .i64 fl, .int .i64 wi, .int .i64 ur, .string (strOfNums lo), .string (strOfNums ds)] 34 rfl rfl R4_W7.out (by kernel_rfl) hs_p5 (by kernel_rfl) ?_)
  intro W6 y1 y2 y3 y4
  obtain ⟨B_W6, R2_W6, R4_W6⟩ := fStore B_W7.out R2_W7.out (rowAs Ep5.out y1) y2 y4
  clear y1 y2 y3 y4 hs_p5
  clear B_W7 R2_W7 R4_W7
  go_wp2_with fail
  go_step3
  show FromLabel _ _ _ _ _ _
  refine from_label rfl ?_
  go_wp2_with (refine Ca.wpList_store_row rfl 34 _ _ rfl (w.heap.size) zeroPk zeroPk 34 rfl rfl R2_W6.out (info36 zsize) rfl one36 ?_)
  intro W9 y1 y2 y3 y4
  go_wp2
  simp only [Exit.jumpTo]
  exact bodyPost_ret (results_pk (p := 2) (u := 3) rfl _ _ (w.heap.size) zeroPk rfl y1 zsize) rfl ⟨rfl, B_W6.out.trans (y4.mono (Nat.le_refl _))⟩
set_option maxHeartbeats 4000000 in
theorem parse_okAC (w : World) (b off A p q : Nat) (zs : List Int) (h : BS w (some ⟨b, off, none⟩) q zs) (hs tt : Nat) (hp : p = A + hs) (hq : q = A + tt) (h0 : 0 < hs) (hA0 : 0 < A) (hst : hs ≤ tt) (hc1 : ¬ q = p) (d s tag : Int) (tg : Bool) (tos id fr ttl pr src dst : Int) (io : List Int) (hw : wholeB fr = true) (k ty co re sp dp : Int) (ns : Bool) (sq ak fl wi ur : Int) (lo ds : List Int) (pd : ByteArray) (hpd : strOfNums (zs.drop q) = pd) (HH : Hid (∀ W, BS W (some ⟨b, off, none⟩) q zs → Calls Tryd.prog 9 #[.slice (some ⟨b, off, none⟩) q q] W fun e w' => e = .returned (Eth.ethV d s tg tag 2048 A 0) ∧ Below W.heap.size W w'))
    (HI : Hid (∀ W, BS W (some ⟨b, off + A, none⟩) (q - A) (zs.drop A) → Calls Tryd.prog 11 #[.slice (some ⟨b, off + A, none⟩) (q - A) (q - A)] W fun e w' => e = .returned (.tuple #[.agg #[.int .i64 tos, .int .i64 id, .int .i64 fr, .int .i64 ttl, .int .i64 pr, .int .u32 src, .int .u32 dst, .string (strOfNums io)], .int .i64 hs, .int .i64 tt, .int .i64 0]) ∧ Below W.heap.size W w'))
    (HL : Hid (∀ W, BS W (some ⟨b, off, none⟩) q zs → Calls Tryd.prog 13 #[.int .u32 src, .int .u32 dst, .int .i64 pr, .slice (some ⟨b, off + p, none⟩) (q - p) (q - p)] W fun e w' => e = .returned (.tuple #[.agg #[.int .i64 k, .int .i64 ty, .int .i64 co, .int .u32 re, .int .i64 sp, .int .i64 dp, .bool ns, .int .u32 sq, .int .u32 ak, .int .i64 fl, .int .i64 wi, .int .i64 ur, .string (strOfNums lo), .string (strOfNums ds)], .int .i64 0]) ∧ Below W.heap.size W w')) :
    Calls Tryd.prog 4 #[.slice (some ⟨b, off, none⟩) q q] w fun e w' => e = .returned (.tuple #[.agg ((Ca.putC (Ca.putC ((Ca.putC zeroPk 0 (#[.int .u64 d, .int .u64 s, .bool tg, .int .i64 tag, .int .i64 2048]).toList).setIfInBounds 11 (.bool true)) 12 (#[.int .i64 tos, .int .i64 id, .int .i64 fr, .int .i64 ttl, .int .i64 pr, .int .u32 src, .int .u32 dst, .string (strOfNums io)]).toList) 20 (#[.int .i64 k, .int .i64 ty, .int .i64 co, .int .u32 re, .int .i64 sp, .int .i64 dp, .bool ns, .int .u32 sq, .int .u32 ak, .int .i64 fl, .int .i64 wi, .int .i64 ur, .string (strOfNums lo), .string (strOfNums ds)]).toList).setIfInBounds 35 (.string pd)), .int .i64 0]) ∧ Below w.heap.size w w' := by
  obtain ⟨p2, Ep2, Zp2⟩ := @letP (Ca.putC zeroPk 0 (#[.int .u64 d, .int .u64 s, .bool tg, .int .i64 tag, .int .i64 2048]).toList) (by kernel_rfl)
  obtain ⟨p3, Ep3, Zp3⟩ := @letP (p2.setIfInBounds 11 (.bool true)) (szSet Zp2.out)
  obtain ⟨p4, Ep4, Zp4⟩ := @letP (Ca.putC p3 12 (#[.int .i64 tos, .int .i64 id, .int .i64 fr, .int .i64 ttl, .int .i64 pr, .int .u32 src, .int .u32 dst, .string (strOfNums io)]).toList) (szPut Zp3.out)
  obtain ⟨p5, Ep5, Zp5⟩ := @letP (Ca.putC p4 20 (#[.int .i64 k, .int .i64 ty, .int .i64 co, .int .u32 re, .int .i64 sp, .int .i64 dp, .bool ns, .int .u32 sq, .int .u32 ak, .int .i64 fl, .int .i64 wi, .int .i64 ur, .string (strOfNums lo), .string (strOfNums ds)]).toList) (szPut Zp4.out)
  obtain ⟨p6, Ep6, Zp6⟩ := @letP (p5.setIfInBounds 35 (.string pd)) (szSet Zp5.out)
  have HRO : Hid (p6.all (·.oneCell') = true) := by show _ = _; rw [← Ep6.out, ← Ep5.out, ← Ep4.out, ← Ep3.out, ← Ep2.out]; kernel_rfl
  rw [Ep2.out, Ep3.out, Ep4.out, Ep5.out, Ep6.out]
  have hm : A ≤ q := by omega
  have hc : ¬ q = A := by omega
  have hrm := h.room
  have k1 : (A : Int) + (hs : Int) = (p : Int) := by omega
  have k2 : (A : Int) + (tt : Int) = (q : Int) := by omega
  have k3 : (p : Int) ≤ q := by omega
  have w1 : IntKind.i64.wrap (p : Int) = p := by simp [IntKind.wrap, IntKind.bits, IntKind.signed]; omega
  have w2 : IntKind.i64.wrap (q : Int) = q := by simp [IntKind.wrap, IntKind.bits, IntKind.signed]; omega
  have HN : Hid (A ≤ q ∧ q ≤ q ∧ q ≤ q ∧ p ≤ q ∧ 0 < p) := by show _ ∧ _; omega
  clear hp hq
  have H : Hid (BS w (some ⟨b, off, none⟩) q zs) := h
  clear h
  go_enter Tryd.func4, Tryd.ntmps4
  go_wp2_with fail
  refine scope_from ?_
  go_wp2_with fail
  refine (HH.out _ (H.out.below (below2 w _ _))).mono ?_
  unfold Eth.ethV
  rintro e W1 ⟨rfl, hb⟩
  obtain ⟨B_W1, R2_W1, R4_W1⟩ : Hid _ ∧ Hid _ ∧ Hid _ := fFirst hb
  clear hb HH
  go_wp2_with (refine Ca.wpList_store_at rfl 25 _ _ rfl (w.heap.size + 1) 0 (zeroPk) #[.int .u64 d, .int .u64 s, .bool tg, .int .i64 tag, .int .i64 2048] 34 rfl rfl R4_W1.out (by kernel_rfl) (Nat.le_of_ble_eq_true (by kernel_rfl)) (by kernel_rfl) ?_)
  intro W2 y1 y2 y3 y4
  obtain ⟨B_W2, R2_W2, R4_W2⟩ := fStore B_W1.out R2_W1.out (rowAs Ep2.out y1) y2 y4
  clear y1 y2 y3 y4
  clear B_W1 R2_W1 R4_W1
  have c4 := (Ca.cell_row R4_W2.out 4).trans (show _ = some (Value.int .i64 2048) by rw [← Ep2.out]; kernel_rfl)
  have c11 := (Ca.cell_row R4_W2.out 11).trans (show _ = some (Value.bool false) by rw [← Ep2.out]; kernel_rfl)
  have f11 := frozen_of_row W2 _ 11 _ _ R4_W2.out
  go_wp2_with fail
  go_step3
  show FromLabel _ _ _ _ _ _
  refine from_label rfl ?_
  go_wp2_with fail
  have RW : Hid _ := rowAs Ep3.out (Ca.row_setCell R4_W2.out 11 (.bool true))
  have ZW : Hid _ := zSet B_W2.out R2_W2.out 11 (.bool true)
  have BW : Hid _ := bSet B_W2.out 11 (.bool true)
  refine (HI.out _ ((H.out.below BW.out).drop (by have := HN.out; omega) A (by have := HN.out; omega))).mono ?_
  rintro e W3 ⟨rfl, hb⟩
  obtain ⟨B_W3, R2_W3, R4_W3⟩ := fCall BW.out ZW.out RW.out hb
  clear hb HI RW ZW BW B_W2 R2_W2 R4_W2 c4 c11 f11
  have hs_p4 : 12 + (#[.int .i64 tos, .int .i64 id, .int .i64 fr, .int .i64 ttl, .int .i64 pr, .int .u32 src, .int .u32 dst, .string (strOfNums io)] : Array Value).size ≤ p3.size := by rw [Zp3.out]; exact Nat.le_of_ble_eq_true (by kernel_rfl)
  go_wp2_with (refine Ca.wpList_store_at rfl 30 _ _ rfl (w.heap.size + 1) 12 p3 #[.int .i64 tos, .int .i64 id, .int .i64 fr, .int .i64 ttl, .int .i64 pr, .int .u32 src, .int .u32 dst, .string (strOfNums io)] 34 rfl rfl R4_W3.out (by kernel_rfl) hs_p4 (by kernel_rfl) ?_)
  intro W4 y1 y2 y3 y4
  obtain ⟨B_W4, R2_W4, R4_W4⟩ := fStore B_W3.out R2_W3.out (rowAs Ep4.out y1) y2 y4
  clear y1 y2 y3 y4 hs_p4
  clear B_W3 R2_W3 R4_W3
  have hx8 : p4.extract 12 (12 + 8) = #[.int .i64 tos, .int .i64 id, .int .i64 fr, .int .i64 ttl, .int .i64 pr, .int .u32 src, .int .u32 dst, .string (strOfNums io)] := by rw [← Ep4.out, ← Ep3.out, ← Ep2.out]; kernel_rfl
  have hx9 : (p4.extract 12 (12 + 8)).size = 8 := by rw [hx8]; rfl
  go_wp2_with (refine Ca.wpList_load_at rfl 30 _ rfl (w.heap.size + 1) 12 8 rfl p4 34 _ R4_W4.out Tryd.underlying30 rfl hx9 (by kernel_rfl) ?_; rw [hx8])
  clear hx8 hx9
  refine (ipwhole_any tos id fr ttl pr src dst io _).mono ?_
  rintro e W5 ⟨rfl, hb⟩
  rw [hw]
  obtain ⟨B_W5, R2_W5, R4_W5⟩ := fCall B_W4.out R2_W4.out R4_W4.out hb
  clear B_W4 R2_W4 R4_W4
  clear hb
  have c17 := (Ca.cell_row R4_W5.out 17).trans (show _ = some (Value.int .u32 src) by rw [← Ep4.out, ← Ep3.out, ← Ep2.out]; kernel_rfl)
  have c18 := (Ca.cell_row R4_W5.out 18).trans (show _ = some (Value.int .u32 dst) by rw [← Ep4.out, ← Ep3.out, ← Ep2.out]; kernel_rfl)
  have c16 := (Ca.cell_row R4_W5.out 16).trans (show _ = some (Value.int .i64 pr) by rw [← Ep4.out, ← Ep3.out, ← Ep2.out]; kernel_rfl)
  go_wp2_with fail
  clear c16 c17 c18
  refine (HL.out _ (H.out.below B_W5.out)).mono ?_
  rintro e W7 ⟨rfl, hb⟩
  obtain ⟨B_W7, R2_W7, R4_W7⟩ := fCall B_W5.out R2_W5.out R4_W5.out hb
  clear B_W5 R2_W5 R4_W5
  clear hb HL
  have hs_p5 : 20 + (#[.int .i64 k, .int .i64 ty, .int .i64 co, .int .u32 re, .int .i64 sp, .int .i64 dp, .bool ns, .int .u32 sq, .int .u32 ak, .int .i64 fl, .int .i64 wi, .int .i64 ur, .string (strOfNums lo), .string (strOfNums ds)] : Array Value).size ≤ p4.size := by rw [Zp4.out]; exact Nat.le_of_ble_eq_true (by kernel_rfl)
  go_wp2_with (refine Ca.wpList_store_at rfl 32 _ _ rfl (w.heap.size + 1) 20 p4 #[.int .i64 k, .int .i64 ty, .int .i64 co, .int .u32 re, .int .i64 sp, .int .i64 dp, .bool ns, .int .u32 sq, .int .u32 ak, .int .i64 fl, .int .i64 wi, .int .i64 ur, .string (strOfNums lo), .string (strOfNums ds)] 34 rfl rfl R4_W7.out (by kernel_rfl) hs_p5 (by kernel_rfl) ?_)
  intro W6 y1 y2 y3 y4
  obtain ⟨B_W6, R2_W6, R4_W6⟩ := fStore B_W7.out R2_W7.out (rowAs Ep5.out y1) y2 y4
  clear y1 y2 y3 y4 hs_p5
  clear B_W7 R2_W7 R4_W7
  have c35 := (Ca.cell_row R4_W6.out 35).trans (show _ = some (Value.string ⟨#[]⟩) by rw [← Ep5.out, ← Ep4.out, ← Ep3.out, ← Ep2.out]; kernel_rfl)
  have f35 := frozen_of_row W6 _ 35 _ _ R4_W6.out
  have cw : (convert 22 9 (.slice (some ⟨b, off, none⟩) 0 0)).run Tryd.prog W6 = .ok (.string pd) W6 := by
    rw [← hpd, List.drop_eq_nil_of_le (by have := H.out.len; omega)]
    exact conv9 0 (BS.empty (w := W6) (some ⟨b, off, none⟩))
  have RW : Hid _ := rowAs Ep6.out (Ca.row_setCell R4_W6.out 35 (.string pd))
  have ZW : Hid _ := zSet B_W6.out R2_W6.out 35 (.string pd)
  have BW : Hid _ := bSet B_W6.out 35 (.string pd)
  clear B_W6 R2_W6 R4_W6 hpd H
  go_wp2_with fail
  go_step3
  go_wp2_with (first
    | refine wpList_load_row rfl 34 _ rfl (w.heap.size + 1) rfl 34 p6 (0, 0) _ RW.out Tryd.underlying34 rfl (info36 Zp6.out) ?_
    | refine Ca.wpList_store_row rfl 34 _ _ rfl (w.heap.size) zeroPk p6 34 rfl rfl ZW.out (info36 Zp6.out) (Eq.trans (b := 36) rfl Zp6.out.symm) HRO.out ?_
    | fail)
  intro W9 y1 y2 y3 y4
  go_wp2
  simp only [Exit.jumpTo]
  exact bodyPost_ret (results_pk (p := 2) (u := 3) rfl _ _ (w.heap.size) p6 rfl y1 Zp6.out) rfl ⟨rfl, BW.out.trans (y4.mono (Nat.le_refl _))⟩
end Go.Proofs.YthodjgaaojmihaaDoor
