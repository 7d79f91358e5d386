/- The law FieldNames, but for its frame. No condition. -/
import Derived.Test.YtbodenmdcbfflaaDoorFR
namespace Go.Proofs.YtbodenmdcbfflaaDoor
open Go.RowKit
/-- The field that a name which is a field's leads to. -/
theorem find_name : ∀ f, f < 29 → 1 ≤ f → findF (fName f) 1 28 = f := by decide +kernel
theorem find_empty : findF ⟨#[]⟩ 1 28 = 0 := by decide +kernel
/-- What the two packages answer of a number, as the law asks it. -/
structure Num (f : Int) (o : Nat) (nm : ByteArray) (bt : Nat) (k : Nat) (is : Bool) : Prop where
  name : ∀ w, Calls Tryd.prog 9 #[.int .i64 f] w fun e w' => e = .returned (.string nm) ∧ Below w.heap.size w w'
  rname : ∀ w, Calls Tryd.prog 13 #[.int .i64 f] w fun e w' => e = .returned (.string nm) ∧ Below w.heap.size w w'
  bits : ∀ w, Calls Tryd.prog 14 #[.int .i64 f] w fun e w' => e = .returned (.int .i64 bt) ∧ Below w.heap.size w w'
  rbits : ∀ w, Calls Tryd.prog 15 #[.int .i64 f] w fun e w' => e = .returned (.int .i64 bt) ∧ Below w.heap.size w w'
  needs : ∀ w, Calls Tryd.prog 10 #[.int .i64 f] w fun e w' => ∃ v, e = .returned v ∧ NeedS w' o v ∧ Below w.heap.size w w'
  rneeds : ∀ w, Calls Tryd.prog 11 #[.int .i64 f] w fun e w' => ∃ v, e = .returned v ∧ NeedS w' o v ∧ Below w.heap.size w w'
  find : findF nm 1 28 = k
  pos : decide (0 < k) = is
  ris : decide (1 ≤ f ∧ f ≤ 28) = is
  same : is = true → (k : Int) = f
theorem num_in (f : Nat) (hf : 1 ≤ f) (hf2 : f ≤ 28) : Num f (fOf f) (fName f) (fBits f) f true :=
  ⟨name_any f hf hf2, rname_any f hf hf2, bits_any f hf hf2, rbits_any f hf hf2, needs_any f hf hf2, rneeds_any f hf hf2, find_name f (by omega) hf, by simp; omega, by simp; omega, fun _ => rfl⟩
theorem num_out (f : Int) (hf : f < 1 ∨ 28 < f) : Num f 0 ⟨#[]⟩ 0 0 false :=
  ⟨name_none f hf, rname_none f hf, bits_none f hf, rbits_none f hf, needs_none f hf, rneeds_none f hf, find_empty, by simp, by simp; omega, fun h => by cases h⟩
theorem need_cells (o k : Nat) (h : k < needLen o) : ∃ a b c : Int, (needC o)[k * 3]? = some (.int .i64 a) ∧ (needC o)[k * 3 + 1]? = some (.int .u64 b) ∧ (needC o)[k * 3 + 2]? = some (.int .u64 c) := by
  unfold needLen at h
  split at h
  · obtain rfl : k = 0 := by omega
    exact ⟨_, _, _, rfl, rfl, rfl⟩
  · obtain rfl : k = 0 := by omega
    exact ⟨_, _, _, rfl, rfl, rfl⟩
  · rcases (show k = 0 ∨ k = 1 from by omega) with rfl | rfl
    · exact ⟨_, _, _, rfl, rfl, rfl⟩
    · exact ⟨_, _, _, rfl, rfl, rfl⟩
  · obtain rfl : k = 0 := by omega
    exact ⟨_, _, _, rfl, rfl, rfl⟩
  · rcases (show k = 0 ∨ k = 1 from by omega) with rfl | rfl
    · exact ⟨_, _, _, rfl, rfl, rfl⟩
    · exact ⟨_, _, _, rfl, rfl, rfl⟩
  · omega
theorem needLen_le (o : Nat) : needLen o ≤ 2 := by unfold needLen; split <;> omega
theorem NeedS.slice {W : World} {o : Nat} {v : Value} (h : NeedS W o v) : ∃ a, v = .slice a (needLen o) (needLen o) ∧ ∀ k, k < needLen o → ∃ g, a = some ⟨g, 0, none⟩ ∧ W.heap[g]? = some (.cells (needC o) 32 (0, 0)) := by
  rcases h with ⟨h1, h2⟩ | ⟨g, h1, h2⟩
  · exact ⟨none, by rw [h1, h2], fun k hk => by omega⟩
  · exact ⟨_, h1, fun k _ => ⟨g, rfl, h2⟩⟩
set_option maxHeartbeats 4000000 in
set_option maxRecDepth 20000 in
theorem names_walk (f : Int) (o : Nat) (nm : ByteArray) (bt k : Nat) (is : Bool) (hN : Num f o nm bt k is) (name : ByteArray) (w : World) :
    Calls Tryd.prog 3 #[.int .i64 f, .string name] w fun e w' => e = .returned (.bool true) ∧ Below w.heap.size w w' := by
  have HN : Hid _ := hN
  clear hN
  obtain ⟨fd, hfd⟩ : ∃ fd, findF name 1 28 = fd := ⟨_, rfl⟩
  obtain ⟨fb, hfb⟩ : ∃ fb, decide (0 < fd) = fb := ⟨_, rfl⟩
  have HFD : Hid _ := hfd
  have HFB : Hid _ := hfb
  clear hfd hfb
  go_enter Tryd.func3, Tryd.ntmps3
  go_wp2_with fail
  refine (find_any name _).mono ?_
  rw [HFD.out, HFB.out]
  rintro e W1 ⟨rfl, hb1⟩
  have HB1 : Hid _ := hb1
  clear hb1
  go_wp2_with fail
  refine (rfind_any name _).mono ?_
  rw [HFD.out, HFB.out]
  rintro e W2 ⟨rfl, hb2⟩
  have HB2 : Hid (Below w.heap.size w W2) := HB1.out.trans (hb2.mono HB1.out.size)
  clear hb2 HB1
  go_wp2_with fail
  refine (HN.out.name _).mono ?_
  rintro e W3 ⟨rfl, hb3⟩
  have HB3 : Hid (Below w.heap.size w W3) := HB2.out.trans (hb3.mono HB2.out.size)
  clear hb3 HB2
  go_wp2_with fail
  refine (find_any nm _).mono ?_
  rw [HN.out.find, HN.out.pos]
  rintro e W4 ⟨rfl, hb4⟩
  have HB4 : Hid (Below w.heap.size w W4) := HB3.out.trans (hb4.mono HB3.out.size)
  clear hb4 HB3
  go_wp2_with fail
  refine (HN.out.needs _).mono ?_
  rintro e W5 ⟨v1, rfl, hn1, hb5⟩
  have HB5 : Hid (Below w.heap.size w W5) := HB4.out.trans (hb5.mono HB4.out.size)
  have HN1 : Hid _ := hn1
  clear hb5 HB4 hn1
  go_wp2_with fail
  refine (HN.out.rneeds _).mono ?_
  rintro e W6 ⟨v2, rfl, hn2, hb6⟩
  have HB6 : Hid (Below w.heap.size w W6) := HB5.out.trans (hb6.mono HB5.out.size)
  obtain ⟨a1, rfl, ha1⟩ := NeedS.slice (NeedS.below HN1.out hb6)
  obtain ⟨a2, rfl, ha2⟩ := NeedS.slice hn2
  have HA1 : Hid _ := ha1
  have HA2 : Hid _ := ha2
  clear hb6 HB5 HN1 hn2 ha1 ha2
  obtain ⟨L, hL⟩ : ∃ L, needLen o = L := ⟨_, rfl⟩
  have hL2 : L ≤ 2 := by rw [← hL]; exact needLen_le o
  rw [hL] at HA1 HA2 ⊢
  have HL : Hid _ := hL
  clear hL
  go_wp2_with fail
  refine (lives_any _).mono ?_
  rintro e W7 ⟨rfl, hb7⟩
  have HB7 : Hid (Below W6.heap.size W6 W7) := hb7
  clear hb7
  have hse : (nm.toList == nm.toList) = true := by simp
  have hfe : (name.toList == name.toList) = true := by simp
  cases is
  · have hris : decide (1 ≤ f ∧ f ≤ 28) = false := HN.out.ris
    go_wp2_with fail
    refine (HN.out.name _).mono ?_
    rintro e W8 ⟨rfl, hb8⟩
    have HB8 : Hid (Below W6.heap.size W6 W8) := HB7.out.trans (hb8.mono HB7.out.size)
    clear hb8
    go_wp2_with fail
    refine (HN.out.rname _).mono ?_
    rintro e W9 ⟨rfl, hb9⟩
    have HB9 : Hid (Below W6.heap.size W6 W9) := HB8.out.trans (hb9.mono HB8.out.size)
    clear hb9 HB8
    go_wp2_with fail
    refine (HN.out.bits _).mono ?_
    rintro e V1 ⟨rfl, hv1⟩
    have HV1 : Hid (Below W6.heap.size W6 V1) := HB9.out.trans (hv1.mono HB9.out.size)
    clear hv1 HB9
    go_wp2_with fail
    refine (HN.out.rbits _).mono ?_
    rintro e V2 ⟨rfl, hv2⟩
    have HV2 : Hid (Below W6.heap.size W6 V2) := HV1.out.trans (hv2.mono HV1.out.size)
    clear hv2 HV1
    go_wp2_with fail
    refine (is_any _ _).mono ?_
    rw [hris]
    rintro e V3 ⟨rfl, hv3⟩
    have HV3 : Hid (Below W6.heap.size W6 V3) := hv3 ▸ HV2.out
    clear hv3 HV2
    go_wp2_with fail
    go_loopw [13] (fun i wr => ∃ j nq : Nat, j ≤ L ∧ i = .int .i64 j ∧ wr = World.drewN V3 nq) (fun i _ => L - (intOf i).toNat)
    case atStart => exact ⟨0, 0, by omega, rfl, rfl⟩
    case round =>
      obtain ⟨j, nq, hj, rfl, rfl⟩ := hrel
      by_cases hlt : j < L
      · have hjI : (j : Int) < (L : Int) := by omega
        obtain ⟨g1, rfl, hg1⟩ := HA1.out j hlt
        obtain ⟨g2, rfl, hg2⟩ := HA2.out j hlt
        obtain ⟨x, y, z, c0, c1, c2⟩ := need_cells o j (by rw [HL.out]; exact hlt)
        have hq1 := (HV3.out.block _ (lt_of_heap hg1)).trans hg1
        have hq2 := (HV3.out.block _ (lt_of_heap hg2)).trans hg2
        have d0 := (cell_row hq1 (j * 3)).trans c0
        have d1 := (cell_row hq1 (j * 3 + 1)).trans c1
        have d2 := (cell_row hq1 (j * 3 + 2)).trans c2
        have e0 := (cell_row hq2 (j * 3)).trans c0
        have e1 := (cell_row hq2 (j * 3 + 1)).trans c1
        have e2 := (cell_row hq2 (j * 3 + 2)).trans c2
        have hneq : ∀ W, (binOp .neq 32 (.agg #[.int .i64 x, .int .u64 y, .int .u64 z]) (.agg #[.int .i64 x, .int .u64 y, .int .u64 z])).run Tryd.prog W = .ok (.bool false) W := fun W => by simp [go_sem]
        clear hg1 hg2 hq1 hq2 c0 c1 c2
        go_wp2_with fail
        go_quiet (fail)
        go_wp2
        go_roundw
        case rel => exact ⟨j + 1, _, by omega, by go_num, rfl⟩
        case measure => simp [intOf]; omega
      · obtain rfl : j = L := by omega
        go_wp2
        go_ret
        exact ⟨rfl, below_drewN (HB6.out.trans (HV3.out.mono HB6.out.size)) _⟩
  · have hris : decide (1 ≤ f ∧ f ≤ 28) = true := HN.out.ris
    have hkf : (k : Int) = f := HN.out.same rfl
    have hkf' : ((k : Int) == f) = true := by simp [hkf]
    go_wp2_with fail
    refine (HN.out.name _).mono ?_
    rintro e W8 ⟨rfl, hb8⟩
    have HB8 : Hid (Below W6.heap.size W6 W8) := HB7.out.trans (hb8.mono HB7.out.size)
    clear hb8
    go_wp2_with fail
    refine (HN.out.rname _).mono ?_
    rintro e W9 ⟨rfl, hb9⟩
    have HB9 : Hid (Below W6.heap.size W6 W9) := HB8.out.trans (hb9.mono HB8.out.size)
    clear hb9 HB8
    go_wp2_with fail
    refine (HN.out.bits _).mono ?_
    rintro e V1 ⟨rfl, hv1⟩
    have HV1 : Hid (Below W6.heap.size W6 V1) := HB9.out.trans (hv1.mono HB9.out.size)
    clear hv1 HB9
    go_wp2_with fail
    refine (HN.out.rbits _).mono ?_
    rintro e V2 ⟨rfl, hv2⟩
    have HV2 : Hid (Below W6.heap.size W6 V2) := HV1.out.trans (hv2.mono HV1.out.size)
    clear hv2 HV1
    go_wp2_with fail
    refine (is_any _ _).mono ?_
    rw [hris]
    rintro e V3 ⟨rfl, hv3⟩
    have HV3 : Hid (Below W6.heap.size W6 V3) := hv3 ▸ HV2.out
    clear hv3 HV2
    go_wp2_with fail
    go_loopw [13] (fun i wr => ∃ j nq : Nat, j ≤ L ∧ i = .int .i64 j ∧ wr = World.drewN V3 nq) (fun i _ => L - (intOf i).toNat)
    case atStart => exact ⟨0, 0, by omega, rfl, rfl⟩
    case round =>
      obtain ⟨j, nq, hj, rfl, rfl⟩ := hrel
      by_cases hlt : j < L
      · have hjI : (j : Int) < (L : Int) := by omega
        obtain ⟨g1, rfl, hg1⟩ := HA1.out j hlt
        obtain ⟨g2, rfl, hg2⟩ := HA2.out j hlt
        obtain ⟨x, y, z, c0, c1, c2⟩ := need_cells o j (by rw [HL.out]; exact hlt)
        have hq1 := (HV3.out.block _ (lt_of_heap hg1)).trans hg1
        have hq2 := (HV3.out.block _ (lt_of_heap hg2)).trans hg2
        have d0 := (cell_row hq1 (j * 3)).trans c0
        have d1 := (cell_row hq1 (j * 3 + 1)).trans c1
        have d2 := (cell_row hq1 (j * 3 + 2)).trans c2
        have e0 := (cell_row hq2 (j * 3)).trans c0
        have e1 := (cell_row hq2 (j * 3 + 1)).trans c1
        have e2 := (cell_row hq2 (j * 3 + 2)).trans c2
        have hneq : ∀ W, (binOp .neq 32 (.agg #[.int .i64 x, .int .u64 y, .int .u64 z]) (.agg #[.int .i64 x, .int .u64 y, .int .u64 z])).run Tryd.prog W = .ok (.bool false) W := fun W => by simp [go_sem]
        clear hg1 hg2 hq1 hq2 c0 c1 c2
        go_wp2_with fail
        go_quiet (fail)
        go_wp2
        go_roundw
        case rel => exact ⟨j + 1, _, by omega, by go_num, rfl⟩
        case measure => simp [intOf]; omega
      · obtain rfl : j = L := by omega
        go_wp2
        go_ret
        exact ⟨rfl, below_drewN (HB6.out.trans (HV3.out.mono HB6.out.size)) _⟩
end Go.Proofs.YtbodenmdcbfflaaDoor
