/- PulseAdds: the walk. Conditions: the counts can be read. -/
import Derived.Test.YthefgplobhmfcabPW1
namespace Go.Proofs.Ythefgplobhmfcab
open Go.RowKit Ieee
/-- In reach. -/
def Half (x : Int) : Prop := 0 ≤ x ∧ x ≤ 524288
def GoodTo (A B : List Int) (k : Nat) : Prop := ∀ i, i < k → Half (A.getD i 0) ∧ Half (B.getD i 0)
theorem getD_of {A : List Int} {k : Nat} {x : Int} (h : A[k]? = some x) : A.getD k 0 = x := by rw [List.getD_eq_getElem?_getD, h]; rfl
theorem GoodTo.succ {A B : List Int} {k : Nat} {x y : Int} (h : GoodTo A B k) (hx : A[k]? = some x) (hy : B[k]? = some y) (h1 : Half x) (h2 : Half y) : GoodTo A B (k + 1) := fun i hi => by
  rcases (by omega : i < k ∨ i = k) with h' | rfl
  · exact h i h'
  · rw [getD_of hx, getD_of hy]; exact ⟨h1, h2⟩
theorem mem_getD {A : List Int} {x : Int} (h : x ∈ A) : ∃ i, i < A.length ∧ A.getD i 0 = x := by
  obtain ⟨i, hi, rfl⟩ := List.mem_iff_getElem.1 h
  exact ⟨i, hi, getD_of (List.getElem?_eq_getElem hi)⟩
theorem GoodTo.cnt {A B : List Int} (hl : A.length = B.length) (h : GoodTo A B A.length) (h1 : 1 ≤ A.length) (h2 : A.length ≤ 1048576) : Cnt A ∧ Cnt B ∧ Cnt (addL A B) := by
  refine ⟨⟨h1, h2, fun x hx => ?_⟩, ⟨by omega, by omega, fun x hx => ?_⟩, ⟨by rw [addL_len hl]; exact h1, by rw [addL_len hl]; exact h2, fun x hx => ?_⟩⟩
  · obtain ⟨i, hi, rfl⟩ := mem_getD hx
    have := (h i hi).1; unfold Half at this; omega
  · obtain ⟨i, hi, rfl⟩ := mem_getD hx
    have := (h i (by omega)).2; unfold Half at this; omega
  · obtain ⟨i, hi, rfl⟩ := mem_getD hx
    rw [addL_len hl] at hi
    have := h i hi; unfold Half at this
    rw [addL_get hl]; omega
theorem okL_far {A : List Int} (h : A.length = 0 ∨ 1048576 < A.length) : okL A = false := by
  unfold okL
  rcases h with h | h
  · rw [h]; rfl
  · rw [decide_eq_false (show ¬ A.length ≤ 1048576 by omega), Bool.and_false]; rfl
set_option maxRecDepth 20000 in
set_option maxHeartbeats 8000000 in
theorem adds_core (a : Option Addr) (n1 c1 : Nat) (b : Option Addr) (n2 c2 : Nat) (p : Int) (N : Nat) (A B : List Int) (w : World) (hN : N ≤ 17592186044416) (hs : (n2 < n1 ∧ N = n2) ∨ (n1 ≤ n2 ∧ N = n1)) (hc1 : n1 ≤ c1) (hc2 : n2 ≤ c2) (hA : IS w a N A) (hB : IS w b N B) :
    Calls Try.prog 3 #[.slice a n1 c1, .slice b n2 c2, .int .i64 p] w fun e w' => e = .returned (.bool true) ∧ Below w.heap.size w w' := by
  have HA : Hid _ := hA
  have HB : Hid _ := hB
  have hla := hA.len
  have hlb := hB.len
  have hl : A.length = B.length := by omega
  have hSl : (addL A B).length = N := by rw [addL_len hl]; omega
  have hmk := fun W => make_ints W N hN
  clear hA hB
  go_enter Try.func3, Try.ntmps3
  rcases hs with ⟨hn, rfl⟩ | ⟨hn, rfl⟩
  · have hnI : (N : Int) < n1 := by omega
    go_wp2_with fail
    have hb0 : Below w.heap.size w (w.alloc (.cells (madeCells #[.int .i64 0] N) 3)) := below1 w _
    have hg0 : (w.alloc (.cells (madeCells #[.int .i64 0] N) 3)).heap[w.heap.size]? = some (.cells (rowC (addL A B) 0) 3 (0, 0)) := by
      rw [rowC_first, hSl]; exact heap_alloc_new _ _
    have ST0 : Hid _ := And.intro hg0 hb0
    clear hg0 hb0
    obtain ⟨g, hg⟩ : ∃ g, g = w.heap.size := ⟨_, rfl⟩
    rw [← hg] at ST0 ⊢
    have HG : Hid _ := hg
    clear hg hmk
    go_loopw [9] (fun i wr => ∃ k : Nat, k ≤ N ∧ i = .int .i64 k ∧ Hid ((wr.heap[g]? = some (.cells (rowC (addL A B) k) 3 (0, 0)) ∧ Below g w wr) ∧ GoodTo A B k)) (fun i _ => N - (intOf i).toNat)
    case atStart => exact ⟨0, by omega, rfl, ST0.out, fun i hi => absurd hi (by omega)⟩
    case round =>
      clear ST0
      obtain ⟨k, hk, rfl, HS⟩ := hrel
      have HBel : Hid (Below w.heap.size w wr) := by have := HS.out.1.2; rwa [HG.out] at this
      by_cases hlt : k < N
      · have hkI : (k : Int) < N := by omega
        obtain ⟨x, hx⟩ := getK (os := A) (k := k) (by omega)
        obtain ⟨y, hy⟩ := getK (os := B) (k := k) (by omega)
        obtain ⟨ga, oa, rfl, ca, _⟩ := (HA.out.below HBel.out).at hx
        obtain ⟨gb, ob, rfl, cb, _⟩ := (HB.out.below HBel.out).at hy
        have hk1 : (k : Int) < n1 := by omega
        by_cases hgood : Half x ∧ Half y
        · obtain ⟨h1, h2⟩ := hgood
          have hS1 : (addL A B)[k]? = some (x + y) := by
            have := addL_get hl k
            rw [getD_of hx, getD_of hy] at this
            obtain ⟨z, hz⟩ := getK (os := addL A B) (k := k) (by omega)
            rw [getD_of hz] at this; rw [hz, this]
          have HGT : Hid _ := HS.out.2.succ hx hy h1 h2
          have hrow := HS.out.1.1
          have HROW : Hid _ := hrow
          have HBG : Hid _ := HS.out.1.2
          have hcg : wr.cell? ⟨g, k, none⟩ = some ((rowC (addL A B) k)[k]'(by rw [rowC_size _ (by omega)]; omega)) := by
            rw [cell_row hrow, Array.getElem?_eq_getElem]
          have hfg := frozen_of_row wr g k _ _ hrow
          unfold Half at h1 h2
          have hw1 : IntKind.i64.wrap (x + y) = x + y := by simp [IntKind.wrap, IntKind.bits, IntKind.signed]; omega
          have HSET : Hid _ := rowC_set (addL A B) hS1
          generalize (rowC (addL A B) k)[k]'(by rw [rowC_size _ (by omega)]; omega) = v0 at hcg
          clear hrow hS1 hx hy HS
          go_wp2_with fail
          go_region
          go_wp2
          go_roundw
          case rel => exact ⟨k + 1, by omega, by go_num, ⟨by rw [← HSET.out]; exact row_setCell HROW.out k _, (HBG.out.setCell (Nat.le_refl _) _).drew⟩, HGT.out⟩
          case measure => simp [intOf]; omega
        · have hbad : x < 0 ∨ 0 ≤ x ∧ 524288 < x ∨ (0 ≤ x ∧ x ≤ 524288) ∧ y < 0 ∨ (0 ≤ x ∧ x ≤ 524288) ∧ 0 ≤ y ∧ 524288 < y := by unfold Half at hgood; omega
          clear hgood HS hx hy
          rcases hbad with h1 | ⟨h1, h2⟩ | ⟨⟨h1, h2⟩, h3⟩ | ⟨⟨h1, h2⟩, h3, h4⟩
          · go_wp2_with fail
            refine (lives_any _).mono ?_
            rintro e W1 ⟨rfl, hb⟩
            have HB1 : Hid (Below w.heap.size w W1) := HBel.out.trans (hb.mono HBel.out.size)
            clear hb
            go_wp2
            go_ret
            exact ⟨rfl, HB1.out⟩
          · go_wp2_with fail
            refine (lives_any _).mono ?_
            rintro e W1 ⟨rfl, hb⟩
            have HB1 : Hid (Below w.heap.size w W1) := HBel.out.trans (hb.mono HBel.out.size)
            clear hb
            go_wp2
            go_ret
            exact ⟨rfl, HB1.out⟩
          · go_wp2_with fail
            refine (lives_any _).mono ?_
            rintro e W1 ⟨rfl, hb⟩
            have HB1 : Hid (Below w.heap.size w W1) := HBel.out.trans (hb.mono HBel.out.size)
            clear hb
            go_wp2
            go_ret
            exact ⟨rfl, HB1.out⟩
          · go_wp2_with fail
            refine (lives_any _).mono ?_
            rintro e W1 ⟨rfl, hb⟩
            have HB1 : Hid (Below w.heap.size w W1) := HBel.out.trans (hb.mono HBel.out.size)
            clear hb
            go_wp2
            go_ret
            exact ⟨rfl, HB1.out⟩
      · obtain rfl : N = k := by omega
        have hnlt : ¬ (N : Int) < N := by omega
        have HI : Hid (IS wr (some ⟨g, 0, none⟩) N (addL A B)) := by
          have := HS.out.1.1
          rw [← hSl] at this ⊢
          exact is_row this
        have HGT : Hid _ := HS.out.2
        have hN1 : N ≤ n1 := by omega
        have hNc1 : (N : Int) ≤ c1 := by omega
        have hNc2 : (N : Int) ≤ c2 := by omega
        have hNd1 : N ≤ c1 := by omega
        have hNd2 : N ≤ c2 := by omega
        clear HS
        by_cases hfar : N = 0 ∨ 1048576 < N
        · have k1 : Hid _ := okL_far (A := A) (by omega)
          have k2 : Hid _ := okL_far (A := B) (by omega)
          have k3 : Hid _ := okL_far (A := addL A B) (by omega)
          clear hfar
          go_wp2_with fail
          refine (of_no _ _ _ A _ (HA.out.below HBel.out) k1.out).mono ?_
          rintro e W1 ⟨rfl, rfl⟩
          go_wp2_with fail
          refine (of_no _ _ _ B _ (HB.out.below HBel.out) k2.out).mono ?_
          rintro e W2 ⟨rfl, rfl⟩
          go_wp2_with fail
          refine (of_no _ _ _ (addL A B) _ HI.out k3.out).mono ?_
          rintro e W3 ⟨rfl, rfl⟩
          go_wp2_with fail
          refine (lives_any _).mono ?_
          rintro e W4 ⟨rfl, hb⟩
          have HB4 : Hid (Below w.heap.size w W4) := HBel.out.trans (hb.mono HBel.out.size)
          clear hb
          go_wp2
          go_ret
          exact ⟨rfl, HB4.out⟩
        · obtain ⟨hCA, hCB, hCS⟩ := GoodTo.cnt hl (by rw [hla]; exact HGT.out) (by omega) (by omega)
          have HCA : Hid _ := hCA
          have HCB : Hid _ := hCB
          have HCS : Hid _ := hCS
          have hN0 : 0 < N := by omega
          clear hCA hCB hCS hfar HGT
          go_wp2_with fail
          refine (of_yes _ _ _ A _ (HA.out.below HBel.out) HCA.out).mono ?_
          rintro e W1 ⟨b1, a1, d1, rfl, hP, hb⟩
          have HP : Hid _ := hP
          replace HI : Hid _ := HI.out.below hb
          replace HBel : Hid (Below w.heap.size w W1) := HBel.out.trans (hb.mono HBel.out.size)
          clear hP hb
          go_wp2_with fail
          refine (of_yes _ _ _ B _ (HB.out.below HBel.out) HCB.out).mono ?_
          rintro e W2 ⟨b2, a2, d2, rfl, hP, hb⟩
          have HQ : Hid _ := hP
          replace HP : Hid _ := HP.out.below hb
          replace HI : Hid _ := HI.out.below hb
          replace HBel : Hid (Below w.heap.size w W2) := HBel.out.trans (hb.mono HBel.out.size)
          clear hP hb
          go_wp2_with fail
          refine (of_yes _ _ _ (addL A B) _ HI.out HCS.out).mono ?_
          rintro e W3 ⟨b3, a3, d3, rfl, hP, hb⟩
          have HR : Hid _ := hP
          replace HP : Hid _ := HP.out.below hb
          replace HQ : Hid _ := HQ.out.below hb
          replace HBel : Hid (Below w.heap.size w W3) := HBel.out.trans (hb.mono HBel.out.size)
          clear hP hb HI
          go_wp2_with fail
          refine (lives_any _).mono ?_
          rintro e W4 ⟨rfl, hb⟩
          replace HP : Hid _ := HP.out.below hb
          replace HQ : Hid _ := HQ.out.below hb
          replace HR : Hid _ := HR.out.below hb
          replace HBel : Hid (Below w.heap.size w W4) := HBel.out.trans (hb.mono HBel.out.size)
          clear hb
          by_cases hp : p = 1 ∨ p = 2 ∨ p = 4
          · obtain ⟨hr, hi⟩ := b_add hl p 4
            have bA := b_bd HCA.out p 4
            have bB := b_bd HCB.out p 4
            have hadd := fun (t : TypeId) (W : World) => complex_add (a := bR A p 4) (b := bI A p 4) (c := bR B p 4) (d := bI B p 4) (by omega) (by omega) (by omega) (by omega) (by omega) (by omega) t W
            have o1 := fl_refl (n := bR A p 4 + bR B p 4) (by omega)
            have o2 := fl_refl (n := bI A p 4 + bI B p 4) (by omega)
            have BA : Hid _ := fun W h => beat_any b1 a1 N d1 A p hp W h HCA.out
            have BB : Hid _ := fun W h => beat_any b2 a2 N d2 B p hp W h HCB.out
            have BS := fun W h => beat_any b3 a3 N d3 (addL A B) p hp W h HCS.out
            rw [hr, hi] at BS
            have HBS : Hid _ := BS
            clear BS hr hi bA bB hp
            generalize floatOfInt .f64 (bR A p 4 + bR B p 4) = z5 at *
            generalize floatOfInt .f64 (bI A p 4 + bI B p 4) = z6 at *
            generalize floatOfInt .f64 (bR A p 4) = z1 at *
            generalize floatOfInt .f64 (bI A p 4) = z2 at *
            generalize floatOfInt .f64 (bR B p 4) = z3 at *
            generalize floatOfInt .f64 (bI B p 4) = z4 at *
            go_wp2_with fail
            refine Calls.mono (BA.out _ HP.out) ?_
            rintro e W5 ⟨rfl, hm⟩
            have hb := drew_below hm
            replace HQ : Hid _ := HQ.out.below hb
            replace HR : Hid _ := HR.out.below hb
            replace HBel : Hid (Below w.heap.size w W5) := HBel.out.trans (hb.mono HBel.out.size)
            clear hb hm
            go_wp2_with fail
            refine Calls.mono (BB.out _ HQ.out) ?_
            rintro e W6 ⟨rfl, hm⟩
            have hb := drew_below hm
            replace HR : Hid _ := HR.out.below hb
            replace HBel : Hid (Below w.heap.size w W6) := HBel.out.trans (hb.mono HBel.out.size)
            clear hb hm
            go_wp2_with fail
            refine Calls.mono (HBS.out _ HR.out) ?_
            rintro e W7 ⟨rfl, hm⟩
            have hb := drew_below hm
            replace HBel : Hid (Below w.heap.size w W7) := HBel.out.trans (hb.mono HBel.out.size)
            clear hb hm
            go_wp2
            go_ret
            exact ⟨rfl, HBel.out⟩
          · have z0 := eq_0
            have hz := add_0
            have HNP : Hid (p ≠ 1 ∧ p ≠ 2 ∧ p ≠ 4) := by show _ ∧ _; omega
            clear hp
            go_wp2_with fail
            refine (beat_no b1 a1 N d1 A p HNP.out.1 HNP.out.2.1 HNP.out.2.2 _ HP.out hN0).mono ?_
            rintro e W5 ⟨rfl, rfl⟩
            go_wp2_with fail
            refine (beat_no b2 a2 N d2 B p HNP.out.1 HNP.out.2.1 HNP.out.2.2 _ HQ.out hN0).mono ?_
            rintro e W6 ⟨rfl, rfl⟩
            go_wp2_with fail
            refine (beat_no b3 a3 N d3 (addL A B) p HNP.out.1 HNP.out.2.1 HNP.out.2.2 _ HR.out hN0).mono ?_
            rintro e W7 ⟨rfl, rfl⟩
            go_wp2
            go_ret
            exact ⟨rfl, HBel.out⟩
  · have hnI : ¬ (n2 : Int) < N := by omega
    go_wp2_with fail
    have hb0 : Below w.heap.size w (w.alloc (.cells (madeCells #[.int .i64 0] N) 3)) := below1 w _
    have hg0 : (w.alloc (.cells (madeCells #[.int .i64 0] N) 3)).heap[w.heap.size]? = some (.cells (rowC (addL A B) 0) 3 (0, 0)) := by
      rw [rowC_first, hSl]; exact heap_alloc_new _ _
    have ST0 : Hid _ := And.intro hg0 hb0
    clear hg0 hb0
    obtain ⟨g, hg⟩ : ∃ g, g = w.heap.size := ⟨_, rfl⟩
    rw [← hg] at ST0 ⊢
    have HG : Hid _ := hg
    clear hg hmk
    go_loopw [9] (fun i wr => ∃ k : Nat, k ≤ N ∧ i = .int .i64 k ∧ Hid ((wr.heap[g]? = some (.cells (rowC (addL A B) k) 3 (0, 0)) ∧ Below g w wr) ∧ GoodTo A B k)) (fun i _ => N - (intOf i).toNat)
    case atStart => exact ⟨0, by omega, rfl, ST0.out, fun i hi => absurd hi (by omega)⟩
    case round =>
      clear ST0
      obtain ⟨k, hk, rfl, HS⟩ := hrel
      have HBel : Hid (Below w.heap.size w wr) := by have := HS.out.1.2; rwa [HG.out] at this
      by_cases hlt : k < N
      · have hkI : (k : Int) < N := by omega
        obtain ⟨x, hx⟩ := getK (os := A) (k := k) (by omega)
        obtain ⟨y, hy⟩ := getK (os := B) (k := k) (by omega)
        obtain ⟨ga, oa, rfl, ca, _⟩ := (HA.out.below HBel.out).at hx
        obtain ⟨gb, ob, rfl, cb, _⟩ := (HB.out.below HBel.out).at hy
        have hk2 : (k : Int) < n2 := by omega
        by_cases hgood : Half x ∧ Half y
        · obtain ⟨h1, h2⟩ := hgood
          have hS1 : (addL A B)[k]? = some (x + y) := by
            have := addL_get hl k
            rw [getD_of hx, getD_of hy] at this
            obtain ⟨z, hz⟩ := getK (os := addL A B) (k := k) (by omega)
            rw [getD_of hz] at this; rw [hz, this]
          have HGT : Hid _ := HS.out.2.succ hx hy h1 h2
          have hrow := HS.out.1.1
          have HROW : Hid _ := hrow
          have HBG : Hid _ := HS.out.1.2
          have hcg : wr.cell? ⟨g, k, none⟩ = some ((rowC (addL A B) k)[k]'(by rw [rowC_size _ (by omega)]; omega)) := by
            rw [cell_row hrow, Array.getElem?_eq_getElem]
          have hfg := frozen_of_row wr g k _ _ hrow
          unfold Half at h1 h2
          have hw1 : IntKind.i64.wrap (x + y) = x + y := by simp [IntKind.wrap, IntKind.bits, IntKind.signed]; omega
          have HSET : Hid _ := rowC_set (addL A B) hS1
          generalize (rowC (addL A B) k)[k]'(by rw [rowC_size _ (by omega)]; omega) = v0 at hcg
          clear hrow hS1 hx hy HS
          go_wp2_with fail
          go_region
          go_wp2
          go_roundw
          case rel => exact ⟨k + 1, by omega, by go_num, ⟨by rw [← HSET.out]; exact row_setCell HROW.out k _, (HBG.out.setCell (Nat.le_refl _) _).drew⟩, HGT.out⟩
          case measure => simp [intOf]; omega
        · have hbad : x < 0 ∨ 0 ≤ x ∧ 524288 < x ∨ (0 ≤ x ∧ x ≤ 524288) ∧ y < 0 ∨ (0 ≤ x ∧ x ≤ 524288) ∧ 0 ≤ y ∧ 524288 < y := by unfold Half at hgood; omega
          clear hgood HS hx hy
          rcases hbad with h1 | ⟨h1, h2⟩ | ⟨⟨h1, h2⟩, h3⟩ | ⟨⟨h1, h2⟩, h3, h4⟩
          · go_wp2_with fail
            refine (lives_any _).mono ?_
            rintro e W1 ⟨rfl, hb⟩
            have HB1 : Hid (Below w.heap.size w W1) := HBel.out.trans (hb.mono HBel.out.size)
            clear hb
            go_wp2
            go_ret
            exact ⟨rfl, HB1.out⟩
          · go_wp2_with fail
            refine (lives_any _).mono ?_
            rintro e W1 ⟨rfl, hb⟩
            have HB1 : Hid (Below w.heap.size w W1) := HBel.out.trans (hb.mono HBel.out.size)
            clear hb
            go_wp2
            go_ret
            exact ⟨rfl, HB1.out⟩
          · go_wp2_with fail
            refine (lives_any _).mono ?_
            rintro e W1 ⟨rfl, hb⟩
            have HB1 : Hid (Below w.heap.size w W1) := HBel.out.trans (hb.mono HBel.out.size)
            clear hb
            go_wp2
            go_ret
            exact ⟨rfl, HB1.out⟩
          · go_wp2_with fail
            refine (lives_any _).mono ?_
            rintro e W1 ⟨rfl, hb⟩
            have HB1 : Hid (Below w.heap.size w W1) := HBel.out.trans (hb.mono HBel.out.size)
            clear hb
            go_wp2
            go_ret
            exact ⟨rfl, HB1.out⟩
      · obtain rfl : N = k := by omega
        have hnlt : ¬ (N : Int) < N := by omega
        have HI : Hid (IS wr (some ⟨g, 0, none⟩) N (addL A B)) := by
          have := HS.out.1.1
          rw [← hSl] at this ⊢
          exact is_row this
        have HGT : Hid _ := HS.out.2
        have hN2 : N ≤ n2 := by omega
        have hNc1 : (N : Int) ≤ c1 := by omega
        have hNc2 : (N : Int) ≤ c2 := by omega
        have hNd1 : N ≤ c1 := by omega
        have hNd2 : N ≤ c2 := by omega
        clear HS
        by_cases hfar : N = 0 ∨ 1048576 < N
        · have k1 : Hid _ := okL_far (A := A) (by omega)
          have k2 : Hid _ := okL_far (A := B) (by omega)
          have k3 : Hid _ := okL_far (A := addL A B) (by omega)
          clear hfar
          go_wp2_with fail
          refine (of_no _ _ _ A _ (HA.out.below HBel.out) k1.out).mono ?_
          rintro e W1 ⟨rfl, rfl⟩
          go_wp2_with fail
          refine (of_no _ _ _ B _ (HB.out.below HBel.out) k2.out).mono ?_
          rintro e W2 ⟨rfl, rfl⟩
          go_wp2_with fail
          refine (of_no _ _ _ (addL A B) _ HI.out k3.out).mono ?_
          rintro e W3 ⟨rfl, rfl⟩
          go_wp2_with fail
          refine (lives_any _).mono ?_
          rintro e W4 ⟨rfl, hb⟩
          have HB4 : Hid (Below w.heap.size w W4) := HBel.out.trans (hb.mono HBel.out.size)
          clear hb
          go_wp2
          go_ret
          exact ⟨rfl, HB4.out⟩
        · obtain ⟨hCA, hCB, hCS⟩ := GoodTo.cnt hl (by rw [hla]; exact HGT.out) (by omega) (by omega)
          have HCA : Hid _ := hCA
          have HCB : Hid _ := hCB
          have HCS : Hid _ := hCS
          have hN0 : 0 < N := by omega
          clear hCA hCB hCS hfar HGT
          go_wp2_with fail
          refine (of_yes _ _ _ A _ (HA.out.below HBel.out) HCA.out).mono ?_
          rintro e W1 ⟨b1, a1, d1, rfl, hP, hb⟩
          have HP : Hid _ := hP
          replace HI : Hid _ := HI.out.below hb
          replace HBel : Hid (Below w.heap.size w W1) := HBel.out.trans (hb.mono HBel.out.size)
          clear hP hb
          go_wp2_with fail
          refine (of_yes _ _ _ B _ (HB.out.below HBel.out) HCB.out).mono ?_
          rintro e W2 ⟨b2, a2, d2, rfl, hP, hb⟩
          have HQ : Hid _ := hP
          replace HP : Hid _ := HP.out.below hb
          replace HI : Hid _ := HI.out.below hb
          replace HBel : Hid (Below w.heap.size w W2) := HBel.out.trans (hb.mono HBel.out.size)
          clear hP hb
          go_wp2_with fail
          refine (of_yes _ _ _ (addL A B) _ HI.out HCS.out).mono ?_
          rintro e W3 ⟨b3, a3, d3, rfl, hP, hb⟩
          have HR : Hid _ := hP
          replace HP : Hid _ := HP.out.below hb
          replace HQ : Hid _ := HQ.out.below hb
          replace HBel : Hid (Below w.heap.size w W3) := HBel.out.trans (hb.mono HBel.out.size)
          clear hP hb HI
          go_wp2_with fail
          refine (lives_any _).mono ?_
          rintro e W4 ⟨rfl, hb⟩
          replace HP : Hid _ := HP.out.below hb
          replace HQ : Hid _ := HQ.out.below hb
          replace HR : Hid _ := HR.out.below hb
          replace HBel : Hid (Below w.heap.size w W4) := HBel.out.trans (hb.mono HBel.out.size)
          clear hb
          by_cases hp : p = 1 ∨ p = 2 ∨ p = 4
          · obtain ⟨hr, hi⟩ := b_add hl p 4
            have bA := b_bd HCA.out p 4
            have bB := b_bd HCB.out p 4
            have hadd := fun (t : TypeId) (W : World) => complex_add (a := bR A p 4) (b := bI A p 4) (c := bR B p 4) (d := bI B p 4) (by omega) (by omega) (by omega) (by omega) (by omega) (by omega) t W
            have o1 := fl_refl (n := bR A p 4 + bR B p 4) (by omega)
            have o2 := fl_refl (n := bI A p 4 + bI B p 4) (by omega)
            have BA : Hid _ := fun W h => beat_any b1 a1 N d1 A p hp W h HCA.out
            have BB : Hid _ := fun W h => beat_any b2 a2 N d2 B p hp W h HCB.out
            have BS := fun W h => beat_any b3 a3 N d3 (addL A B) p hp W h HCS.out
            rw [hr, hi] at BS
            have HBS : Hid _ := BS
            clear BS hr hi bA bB hp
            generalize floatOfInt .f64 (bR A p 4 + bR B p 4) = z5 at *
            generalize floatOfInt .f64 (bI A p 4 + bI B p 4) = z6 at *
            generalize floatOfInt .f64 (bR A p 4) = z1 at *
            generalize floatOfInt .f64 (bI A p 4) = z2 at *
            generalize floatOfInt .f64 (bR B p 4) = z3 at *
            generalize floatOfInt .f64 (bI B p 4) = z4 at *
            go_wp2_with fail
            refine Calls.mono (BA.out _ HP.out) ?_
            rintro e W5 ⟨rfl, hm⟩
            have hb := drew_below hm
            replace HQ : Hid _ := HQ.out.below hb
            replace HR : Hid _ := HR.out.below hb
            replace HBel : Hid (Below w.heap.size w W5) := HBel.out.trans (hb.mono HBel.out.size)
            clear hb hm
            go_wp2_with fail
            refine Calls.mono (BB.out _ HQ.out) ?_
            rintro e W6 ⟨rfl, hm⟩
            have hb := drew_below hm
            replace HR : Hid _ := HR.out.below hb
            replace HBel : Hid (Below w.heap.size w W6) := HBel.out.trans (hb.mono HBel.out.size)
            clear hb hm
            go_wp2_with fail
            refine Calls.mono (HBS.out _ HR.out) ?_
            rintro e W7 ⟨rfl, hm⟩
            have hb := drew_below hm
            replace HBel : Hid (Below w.heap.size w W7) := HBel.out.trans (hb.mono HBel.out.size)
            clear hb hm
            go_wp2
            go_ret
            exact ⟨rfl, HBel.out⟩
          · have z0 := eq_0
            have hz := add_0
            have HNP : Hid (p ≠ 1 ∧ p ≠ 2 ∧ p ≠ 4) := by show _ ∧ _; omega
            clear hp
            go_wp2_with fail
            refine (beat_no b1 a1 N d1 A p HNP.out.1 HNP.out.2.1 HNP.out.2.2 _ HP.out hN0).mono ?_
            rintro e W5 ⟨rfl, rfl⟩
            go_wp2_with fail
            refine (beat_no b2 a2 N d2 B p HNP.out.1 HNP.out.2.1 HNP.out.2.2 _ HQ.out hN0).mono ?_
            rintro e W6 ⟨rfl, rfl⟩
            go_wp2_with fail
            refine (beat_no b3 a3 N d3 (addL A B) p HNP.out.1 HNP.out.2.1 HNP.out.2.2 _ HR.out hN0).mono ?_
            rintro e W7 ⟨rfl, rfl⟩
            go_wp2
            go_ret
            exact ⟨rfl, HBel.out⟩
theorem adds_any (a : Option Addr) (n1 c1 : Nat) (A : List Int) (b : Option Addr) (n2 c2 : Nat) (B : List Int) (p : Int) (w : World) (hc1 : n1 ≤ c1) (hm1 : n1 ≤ 17592186044416) (hc2 : n2 ≤ c2) (hm2 : n2 ≤ 17592186044416) (hA : IS w a n1 A) (hB : IS w b n2 B) :
    Calls Try.prog 3 #[.slice a n1 c1, .slice b n2 c2, .int .i64 p] w fun e w' => e = .returned (.bool true) ∧ Below w.heap.size w w' := by
  by_cases h : n2 < n1
  · exact adds_core a n1 c1 b n2 c2 p n2 (A.take n2) (B.take n2) w hm2 (.inl ⟨h, rfl⟩) hc1 hc2 (hA.take n2 (by omega)) (hB.take n2 (by omega))
  · exact adds_core a n1 c1 b n2 c2 p n1 (A.take n1) (B.take n1) w hm1 (.inr ⟨by omega, rfl⟩) hc1 hc2 (hA.take n1 (by omega)) (hB.take n1 (by omega))
end Go.Proofs.Ythefgplobhmfcab
