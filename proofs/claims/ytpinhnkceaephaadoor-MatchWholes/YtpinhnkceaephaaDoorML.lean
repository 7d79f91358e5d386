/- The walk of MatchOrder. Conditions: the terms can be read; the table of trailing zeros holds 4 at its fifteenth place. -/
import Derived.Test.YtpinhnkceaephaaDoorMK
namespace Go.Proofs.YtpinhnkceaephaaDoor
open Go.RowKit
theorem and_comm' (la lb : List Tm) : andOf lb la = andOf la lb := by
  unfold andOf
  rw [Bool.and_comm]
  cases h : (chk abV 0 la && chk abV 0 lb)
  · rfl
  · rw [Bool.and_eq_true] at h
    simp only [if_true]
    exact (jn_comm h.1 h.2).symm
theorem err_comm (la lb : List Tm) : errOf lb la = errOf la lb := by
  unfold errOf; rw [Bool.and_comm]
theorem imp_parts {la lb : List Tm} (h : impOf la lb = true) : chk abV 0 la = true ∧ chk abV 0 lb = true ∧ fol la lb = true := by
  unfold impOf at h
  simp only [Bool.and_eq_true] at h
  exact ⟨h.1.1, h.1.2, h.2⟩
theorem imp_trans {la lb lc : List Tm} (h1 : impOf la lb = true) (h2 : impOf lb lc = true) : impOf la lc = true := by
  obtain ⟨a1, a2, a3⟩ := imp_parts h1
  obtain ⟨b1, b2, b3⟩ := imp_parts h2
  simp [impOf, a1, b2, fol_trans a1 a2 b2 a3 b3]
theorem imp_anti {la lb : List Tm} (h1 : impOf la lb = true) (h2 : impOf lb la = true) : lb = la := by
  obtain ⟨a1, a2, a3⟩ := imp_parts h1
  obtain ⟨_, _, b3⟩ := imp_parts h2
  exact (fol_anti a1 a2 a3 b3).symm
theorem and_some {la lb x : List Tm} (h : andOf la lb = some x) : chk abV 0 la = true ∧ chk abV 0 lb = true ∧ jn la lb = some x ∧ chk abV 0 x = true := by
  unfold andOf at h
  split at h
  · rename_i hc
    rw [Bool.and_eq_true] at hc
    exact ⟨hc.1, hc.2, h, (jn_some hc.1 hc.2 h).1⟩
  · cases h
theorem and_of {la lb : List Tm} (h1 : chk abV 0 la = true) (h2 : chk abV 0 lb = true) : andOf la lb = jn la lb := if_pos (by simp [h1, h2])
theorem and_assoc' {la lb lc x z : List Tm} (hx : andOf la lb = some x) (hz : andOf lb lc = some z) : andOf la z = andOf x lc := by
  obtain ⟨a1, a2, a3, a4⟩ := and_some hx
  obtain ⟨_, b2, b3, b4⟩ := and_some hz
  rw [and_of a1 b4, and_of a4 b2]
  exact (jn_assoc a1 a2 b2 a3 b3).symm
theorem getD_of {x : Option (List Tm)} {q : Bool} (h : x.isSome = q) (hq : q = true) : x = some (x.getD []) := by
  cases x with
  | none => rw [hq] at h; cases h
  | some l => rfl
set_option maxRecDepth 20000 in
set_option maxHeartbeats 4000000 in
theorem order_any (va vb vc : Value) (la lb lc : List Tm) (w : World) (ha : TV w va la) (hb : TV w vb lb) (hc : TV w vc lc) (htab : w.cell? ⟨2, 15, none⟩ = some (.int .u8 4)) :
    Calls Tryd.prog 6 #[va, vb, vc] w fun e w' => e = .returned (.bool true) ∧ Below w.heap.size w w' := by
  have HA : Hid (TV w va la) := ha
  have HBb : Hid (TV w vb lb) := hb
  have HC : Hid (TV w vc lc) := hc
  have HT : Hid _ := htab
  clear ha hb hc htab
  go_enter Tryd.func6, Tryd.ntmps6
  go_wp2_with fail
  refine (lives_any _ HT.out).mono ?_
  rintro e W1 ⟨rfl, hb⟩
  have HB1 : Hid (Below w.heap.size w W1) := hb
  clear hb HT
  go_wp2_with fail
  refine (and_any va vb la lb _ (HA.out.below HB1.out) (HBb.out.below HB1.out)).mono ?_
  rintro e W2 ⟨x, rfl, hx, hb⟩
  have HX : Hid (TV W2 x ((andOf la lb).getD [])) := hx
  have HB2 : Hid (Below w.heap.size w W2) := HB1.out.trans (hb.mono HB1.out.size)
  clear hb hx HB1
  generalize hp : (andOf la lb).isSome = p1
  generalize he : errOf la lb = e1
  have HP : Hid _ := hp
  have HE : Hid _ := he
  clear hp he
  go_wp2_with fail
  refine (and_any vb va lb la _ (HBb.out.below HB2.out) (HA.out.below HB2.out)).mono ?_
  rw [and_comm', err_comm, HP.out, HE.out]
  rintro e W3 ⟨y, rfl, hy, hb⟩
  have HY : Hid (TV W3 y ((andOf la lb).getD [])) := hy
  have HX3 : Hid (TV W3 x ((andOf la lb).getD [])) := HX.out.below hb
  have HB3 : Hid (Below w.heap.size w W3) := HB2.out.trans (hb.mono HB2.out.size)
  clear hb hy HB2 HX
  go_wp2_with fail
  refine (same_yes x y _ _ HX3.out HY.out).mono ?_
  rintro e W4 ⟨rfl, hb⟩
  have HX4 : Hid (TV W4 x ((andOf la lb).getD [])) := HX3.out.below hb
  have HB4 : Hid (Below w.heap.size w W4) := HB3.out.trans (hb.mono HB3.out.size)
  clear hb HX3 HY HB3
  have ep : (p1 != p1) = false := by simp
  have ee : (e1 != e1) = false := by simp
  go_wp2_with fail
  cases hi1 : impOf la lb
  · have H1 : Hid _ := hi1
    clear hi1
    refine (implies_any va vb la lb _ (HA.out.below HB4.out) (HBb.out.below HB4.out)).mono ?_
    rw [H1.out]
    rintro e W5 ⟨rfl, hb⟩
    have HX5 : Hid (TV W5 x ((andOf la lb).getD [])) := HX4.out.below hb
    have HB5 : Hid (Below w.heap.size w W5) := HB4.out.trans (hb.mono HB4.out.size)
    clear hb HX4 HB4
    go_wp2_with fail
    refine (implies_any va vb la lb _ (HA.out.below HB5.out) (HBb.out.below HB5.out)).mono ?_
    rw [H1.out]
    rintro e W6 ⟨rfl, hb⟩
    have HX6 : Hid (TV W6 x ((andOf la lb).getD [])) := HX5.out.below hb
    have HB6 : Hid (Below w.heap.size w W6) := HB5.out.trans (hb.mono HB5.out.size)
    clear hb HX5 HB5
    go_wp2_with fail
    refine (and_any vb vc lb lc _ (HBb.out.below HB6.out) (HC.out.below HB6.out)).mono ?_
    rintro e WA ⟨z, rfl, hz, hb⟩
    have HZ : Hid (TV WA z ((andOf lb lc).getD [])) := hz
    have HXA : Hid (TV WA x ((andOf la lb).getD [])) := HX6.out.below hb
    have HBA : Hid (Below w.heap.size w WA) := HB6.out.trans (hb.mono HB6.out.size)
    clear hb hz HX6 HB6
    generalize hr : (andOf lb lc).isSome = r1
    generalize hg : errOf lb lc = g1
    have HR : Hid _ := hr
    clear hr hg
    cases he1 : (e1 != 0)
    · cases hg1 : (g1 != 0)
      · cases p1
        · go_wp2_with fail
          go_ret
          exact ⟨rfl, HBA.out⟩
        · cases r1
          · go_wp2_with fail
            go_ret
            exact ⟨rfl, HBA.out⟩
          · have HXS : Hid _ := getD_of HP.out rfl
            have HZS : Hid _ := getD_of HR.out rfl
            have HAS : Hid _ := and_assoc' HXS.out HZS.out
            clear ep ee
            go_wp2_with fail
            refine (and_any x vc _ lc _ HXA.out (HC.out.below HBA.out)).mono ?_
            rintro e WB ⟨u, rfl, hu, hb⟩
            have HU : Hid (TV WB u ((andOf ((andOf la lb).getD []) lc).getD [])) := hu
            have HZB : Hid (TV WB z ((andOf lb lc).getD [])) := HZ.out.below hb
            have HBB : Hid (Below w.heap.size w WB) := HBA.out.trans (hb.mono HBA.out.size)
            clear hu hb HBA HXA HZ
            generalize hm : (andOf ((andOf la lb).getD []) lc).isSome = m1
            generalize errOf ((andOf la lb).getD []) lc = q1
            have HM : Hid _ := hm
            clear hm
            go_wp2_with fail
            refine (and_any va z la _ _ (HA.out.below HBB.out) HZB.out).mono ?_
            rw [HAS.out, HM.out]
            rintro e WC ⟨v, rfl, hv, hb⟩
            have HV : Hid (TV WC v ((andOf ((andOf la lb).getD []) lc).getD [])) := hv
            have HUC : Hid (TV WC u ((andOf ((andOf la lb).getD []) lc).getD [])) := HU.out.below hb
            have HBC : Hid (Below w.heap.size w WC) := HBB.out.trans (hb.mono HBB.out.size)
            clear hv hb HBB HU
            generalize errOf la ((andOf lb lc).getD []) = q2
            have em : (m1 == m1) = true := by simp
            go_wp2_with fail
            refine (same_yes u v _ _ HUC.out HV.out).mono ?_
            rintro e WD ⟨rfl, hb⟩
            have HBD : Hid (Below w.heap.size w WD) := HBC.out.trans (hb.mono HBC.out.size)
            clear hb
            go_wp2_with fail
            go_ret
            exact ⟨rfl, HBD.out⟩
      · go_wp2_with fail
        go_ret
        exact ⟨rfl, HBA.out⟩
    · go_wp2_with fail
      go_ret
      exact ⟨rfl, HBA.out⟩
  · have H1 : Hid _ := hi1
    cases hi2 : impOf lb lc
    · have H2 : Hid _ := hi2
      cases hi4 : impOf lb la
      · have H4 : Hid _ := hi4
        clear hi1 hi2 hi4
        refine (implies_any va vb la lb _ (HA.out.below HB4.out) (HBb.out.below HB4.out)).mono ?_
        rw [H1.out]
        rintro e W5 ⟨rfl, hb⟩
        have HX5 : Hid (TV W5 x ((andOf la lb).getD [])) := HX4.out.below hb
        have HB5 : Hid (Below w.heap.size w W5) := HB4.out.trans (hb.mono HB4.out.size)
        clear hb HX4 HB4
        go_wp2_with fail
        refine (implies_any vb vc lb lc _ (HBb.out.below HB5.out) (HC.out.below HB5.out)).mono ?_
        rw [H2.out]
        rintro e W6 ⟨rfl, hb⟩
        have HX6 : Hid (TV W6 x ((andOf la lb).getD [])) := HX5.out.below hb
        have HB6 : Hid (Below w.heap.size w W6) := HB5.out.trans (hb.mono HB5.out.size)
        clear hb HX5 HB5
        go_wp2_with fail
        refine (implies_any va vb la lb _ (HA.out.below HB6.out) (HBb.out.below HB6.out)).mono ?_
        rw [H1.out]
        rintro e W7 ⟨rfl, hb⟩
        have HX7 : Hid (TV W7 x ((andOf la lb).getD [])) := HX6.out.below hb
        have HB7 : Hid (Below w.heap.size w W7) := HB6.out.trans (hb.mono HB6.out.size)
        clear hb HX6 HB6
        go_wp2_with fail
        refine (implies_any vb va lb la _ (HBb.out.below HB7.out) (HA.out.below HB7.out)).mono ?_
        rw [H4.out]
        rintro e W8 ⟨rfl, hb⟩
        have HX8 : Hid (TV W8 x ((andOf la lb).getD [])) := HX7.out.below hb
        have HB8 : Hid (Below w.heap.size w W8) := HB7.out.trans (hb.mono HB7.out.size)
        clear hb HX7 HB7
        go_wp2_with fail
        refine (and_any vb vc lb lc _ (HBb.out.below HB8.out) (HC.out.below HB8.out)).mono ?_
        rintro e WA ⟨z, rfl, hz, hb⟩
        have HZ : Hid (TV WA z ((andOf lb lc).getD [])) := hz
        have HXA : Hid (TV WA x ((andOf la lb).getD [])) := HX8.out.below hb
        have HBA : Hid (Below w.heap.size w WA) := HB8.out.trans (hb.mono HB8.out.size)
        clear hb hz HX8 HB8
        generalize hr : (andOf lb lc).isSome = r1
        generalize hg : errOf lb lc = g1
        have HR : Hid _ := hr
        clear hr hg
        cases he1 : (e1 != 0)
        · cases hg1 : (g1 != 0)
          · cases p1
            · go_wp2_with fail
              go_ret
              exact ⟨rfl, HBA.out⟩
            · cases r1
              · go_wp2_with fail
                go_ret
                exact ⟨rfl, HBA.out⟩
              · have HXS : Hid _ := getD_of HP.out rfl
                have HZS : Hid _ := getD_of HR.out rfl
                have HAS : Hid _ := and_assoc' HXS.out HZS.out
                clear ep ee
                go_wp2_with fail
                refine (and_any x vc _ lc _ HXA.out (HC.out.below HBA.out)).mono ?_
                rintro e WB ⟨u, rfl, hu, hb⟩
                have HU : Hid (TV WB u ((andOf ((andOf la lb).getD []) lc).getD [])) := hu
                have HZB : Hid (TV WB z ((andOf lb lc).getD [])) := HZ.out.below hb
                have HBB : Hid (Below w.heap.size w WB) := HBA.out.trans (hb.mono HBA.out.size)
                clear hu hb HBA HXA HZ
                generalize hm : (andOf ((andOf la lb).getD []) lc).isSome = m1
                generalize errOf ((andOf la lb).getD []) lc = q1
                have HM : Hid _ := hm
                clear hm
                go_wp2_with fail
                refine (and_any va z la _ _ (HA.out.below HBB.out) HZB.out).mono ?_
                rw [HAS.out, HM.out]
                rintro e WC ⟨v, rfl, hv, hb⟩
                have HV : Hid (TV WC v ((andOf ((andOf la lb).getD []) lc).getD [])) := hv
                have HUC : Hid (TV WC u ((andOf ((andOf la lb).getD []) lc).getD [])) := HU.out.below hb
                have HBC : Hid (Below w.heap.size w WC) := HBB.out.trans (hb.mono HBB.out.size)
                clear hv hb HBB HU
                generalize errOf la ((andOf lb lc).getD []) = q2
                have em : (m1 == m1) = true := by simp
                go_wp2_with fail
                refine (same_yes u v _ _ HUC.out HV.out).mono ?_
                rintro e WD ⟨rfl, hb⟩
                have HBD : Hid (Below w.heap.size w WD) := HBC.out.trans (hb.mono HBC.out.size)
                clear hb
                go_wp2_with fail
                go_ret
                exact ⟨rfl, HBD.out⟩
          · go_wp2_with fail
            go_ret
            exact ⟨rfl, HBA.out⟩
        · go_wp2_with fail
          go_ret
          exact ⟨rfl, HBA.out⟩
      · have H4 : Hid _ := hi4
        have HEQ : Hid _ := imp_anti hi1 hi4
        clear hi1 hi2 hi4
        refine (implies_any va vb la lb _ (HA.out.below HB4.out) (HBb.out.below HB4.out)).mono ?_
        rw [H1.out]
        rintro e W5 ⟨rfl, hb⟩
        have HX5 : Hid (TV W5 x ((andOf la lb).getD [])) := HX4.out.below hb
        have HB5 : Hid (Below w.heap.size w W5) := HB4.out.trans (hb.mono HB4.out.size)
        clear hb HX4 HB4
        go_wp2_with fail
        refine (implies_any vb vc lb lc _ (HBb.out.below HB5.out) (HC.out.below HB5.out)).mono ?_
        rw [H2.out]
        rintro e W6 ⟨rfl, hb⟩
        have HX6 : Hid (TV W6 x ((andOf la lb).getD [])) := HX5.out.below hb
        have HB6 : Hid (Below w.heap.size w W6) := HB5.out.trans (hb.mono HB5.out.size)
        clear hb HX5 HB5
        go_wp2_with fail
        refine (implies_any va vb la lb _ (HA.out.below HB6.out) (HBb.out.below HB6.out)).mono ?_
        rw [H1.out]
        rintro e W7 ⟨rfl, hb⟩
        have HX7 : Hid (TV W7 x ((andOf la lb).getD [])) := HX6.out.below hb
        have HB7 : Hid (Below w.heap.size w W7) := HB6.out.trans (hb.mono HB6.out.size)
        clear hb HX6 HB6
        go_wp2_with fail
        refine (implies_any vb va lb la _ (HBb.out.below HB7.out) (HA.out.below HB7.out)).mono ?_
        rw [H4.out]
        rintro e W8 ⟨rfl, hb⟩
        have HX8 : Hid (TV W8 x ((andOf la lb).getD [])) := HX7.out.below hb
        have HB8 : Hid (Below w.heap.size w W8) := HB7.out.trans (hb.mono HB7.out.size)
        clear hb HX7 HB7
        go_wp2_with fail
        refine (same_yes va vb la _ (HA.out.below HB8.out) (by have := HBb.out.below HB8.out; rw [HEQ.out] at this; exact this)).mono ?_
        rintro e W9 ⟨rfl, hb⟩
        have HX9 : Hid (TV W9 x ((andOf la lb).getD [])) := HX8.out.below hb
        have HB9 : Hid (Below w.heap.size w W9) := HB8.out.trans (hb.mono HB8.out.size)
        clear hb HX8 HB8
        go_wp2_with fail
        refine (and_any vb vc lb lc _ (HBb.out.below HB9.out) (HC.out.below HB9.out)).mono ?_
        rintro e WA ⟨z, rfl, hz, hb⟩
        have HZ : Hid (TV WA z ((andOf lb lc).getD [])) := hz
        have HXA : Hid (TV WA x ((andOf la lb).getD [])) := HX9.out.below hb
        have HBA : Hid (Below w.heap.size w WA) := HB9.out.trans (hb.mono HB9.out.size)
        clear hb hz HX9 HB9
        generalize hr : (andOf lb lc).isSome = r1
        generalize hg : errOf lb lc = g1
        have HR : Hid _ := hr
        clear hr hg
        cases he1 : (e1 != 0)
        · cases hg1 : (g1 != 0)
          · cases p1
            · go_wp2_with fail
              go_ret
              exact ⟨rfl, HBA.out⟩
            · cases r1
              · go_wp2_with fail
                go_ret
                exact ⟨rfl, HBA.out⟩
              · have HXS : Hid _ := getD_of HP.out rfl
                have HZS : Hid _ := getD_of HR.out rfl
                have HAS : Hid _ := and_assoc' HXS.out HZS.out
                clear ep ee
                go_wp2_with fail
                refine (and_any x vc _ lc _ HXA.out (HC.out.below HBA.out)).mono ?_
                rintro e WB ⟨u, rfl, hu, hb⟩
                have HU : Hid (TV WB u ((andOf ((andOf la lb).getD []) lc).getD [])) := hu
                have HZB : Hid (TV WB z ((andOf lb lc).getD [])) := HZ.out.below hb
                have HBB : Hid (Below w.heap.size w WB) := HBA.out.trans (hb.mono HBA.out.size)
                clear hu hb HBA HXA HZ
                generalize hm : (andOf ((andOf la lb).getD []) lc).isSome = m1
                generalize errOf ((andOf la lb).getD []) lc = q1
                have HM : Hid _ := hm
                clear hm
                go_wp2_with fail
                refine (and_any va z la _ _ (HA.out.below HBB.out) HZB.out).mono ?_
                rw [HAS.out, HM.out]
                rintro e WC ⟨v, rfl, hv, hb⟩
                have HV : Hid (TV WC v ((andOf ((andOf la lb).getD []) lc).getD [])) := hv
                have HUC : Hid (TV WC u ((andOf ((andOf la lb).getD []) lc).getD [])) := HU.out.below hb
                have HBC : Hid (Below w.heap.size w WC) := HBB.out.trans (hb.mono HBB.out.size)
                clear hv hb HBB HU
                generalize errOf la ((andOf lb lc).getD []) = q2
                have em : (m1 == m1) = true := by simp
                go_wp2_with fail
                refine (same_yes u v _ _ HUC.out HV.out).mono ?_
                rintro e WD ⟨rfl, hb⟩
                have HBD : Hid (Below w.heap.size w WD) := HBC.out.trans (hb.mono HBC.out.size)
                clear hb
                go_wp2_with fail
                go_ret
                exact ⟨rfl, HBD.out⟩
          · go_wp2_with fail
            go_ret
            exact ⟨rfl, HBA.out⟩
        · go_wp2_with fail
          go_ret
          exact ⟨rfl, HBA.out⟩
    · have H2 : Hid _ := hi2
      have H3 : Hid _ := imp_trans hi1 hi2
      cases hi4 : impOf lb la
      · have H4 : Hid _ := hi4
        clear hi1 hi2 hi4
        refine (implies_any va vb la lb _ (HA.out.below HB4.out) (HBb.out.below HB4.out)).mono ?_
        rw [H1.out]
        rintro e W5 ⟨rfl, hb⟩
        have HX5 : Hid (TV W5 x ((andOf la lb).getD [])) := HX4.out.below hb
        have HB5 : Hid (Below w.heap.size w W5) := HB4.out.trans (hb.mono HB4.out.size)
        clear hb HX4 HB4
        go_wp2_with fail
        refine (implies_any vb vc lb lc _ (HBb.out.below HB5.out) (HC.out.below HB5.out)).mono ?_
        rw [H2.out]
        rintro e W6 ⟨rfl, hb⟩
        have HX6 : Hid (TV W6 x ((andOf la lb).getD [])) := HX5.out.below hb
        have HB6 : Hid (Below w.heap.size w W6) := HB5.out.trans (hb.mono HB5.out.size)
        clear hb HX5 HB5
        go_wp2_with fail
        refine (implies_any va vc la lc _ (HA.out.below HB6.out) (HC.out.below HB6.out)).mono ?_
        rw [H3.out]
        rintro e W7 ⟨rfl, hb⟩
        have HX7 : Hid (TV W7 x ((andOf la lb).getD [])) := HX6.out.below hb
        have HB7 : Hid (Below w.heap.size w W7) := HB6.out.trans (hb.mono HB6.out.size)
        clear hb HX6 HB6
        go_wp2_with fail
        refine (implies_any va vb la lb _ (HA.out.below HB7.out) (HBb.out.below HB7.out)).mono ?_
        rw [H1.out]
        rintro e W8 ⟨rfl, hb⟩
        have HX8 : Hid (TV W8 x ((andOf la lb).getD [])) := HX7.out.below hb
        have HB8 : Hid (Below w.heap.size w W8) := HB7.out.trans (hb.mono HB7.out.size)
        clear hb HX7 HB7
        go_wp2_with fail
        refine (implies_any vb va lb la _ (HBb.out.below HB8.out) (HA.out.below HB8.out)).mono ?_
        rw [H4.out]
        rintro e W9 ⟨rfl, hb⟩
        have HX9 : Hid (TV W9 x ((andOf la lb).getD [])) := HX8.out.below hb
        have HB9 : Hid (Below w.heap.size w W9) := HB8.out.trans (hb.mono HB8.out.size)
        clear hb HX8 HB8
        go_wp2_with fail
        refine (and_any vb vc lb lc _ (HBb.out.below HB9.out) (HC.out.below HB9.out)).mono ?_
        rintro e WA ⟨z, rfl, hz, hb⟩
        have HZ : Hid (TV WA z ((andOf lb lc).getD [])) := hz
        have HXA : Hid (TV WA x ((andOf la lb).getD [])) := HX9.out.below hb
        have HBA : Hid (Below w.heap.size w WA) := HB9.out.trans (hb.mono HB9.out.size)
        clear hb hz HX9 HB9
        generalize hr : (andOf lb lc).isSome = r1
        generalize hg : errOf lb lc = g1
        have HR : Hid _ := hr
        clear hr hg
        cases he1 : (e1 != 0)
        · cases hg1 : (g1 != 0)
          · cases p1
            · go_wp2_with fail
              go_ret
              exact ⟨rfl, HBA.out⟩
            · cases r1
              · go_wp2_with fail
                go_ret
                exact ⟨rfl, HBA.out⟩
              · have HXS : Hid _ := getD_of HP.out rfl
                have HZS : Hid _ := getD_of HR.out rfl
                have HAS : Hid _ := and_assoc' HXS.out HZS.out
                clear ep ee
                go_wp2_with fail
                refine (and_any x vc _ lc _ HXA.out (HC.out.below HBA.out)).mono ?_
                rintro e WB ⟨u, rfl, hu, hb⟩
                have HU : Hid (TV WB u ((andOf ((andOf la lb).getD []) lc).getD [])) := hu
                have HZB : Hid (TV WB z ((andOf lb lc).getD [])) := HZ.out.below hb
                have HBB : Hid (Below w.heap.size w WB) := HBA.out.trans (hb.mono HBA.out.size)
                clear hu hb HBA HXA HZ
                generalize hm : (andOf ((andOf la lb).getD []) lc).isSome = m1
                generalize errOf ((andOf la lb).getD []) lc = q1
                have HM : Hid _ := hm
                clear hm
                go_wp2_with fail
                refine (and_any va z la _ _ (HA.out.below HBB.out) HZB.out).mono ?_
                rw [HAS.out, HM.out]
                rintro e WC ⟨v, rfl, hv, hb⟩
                have HV : Hid (TV WC v ((andOf ((andOf la lb).getD []) lc).getD [])) := hv
                have HUC : Hid (TV WC u ((andOf ((andOf la lb).getD []) lc).getD [])) := HU.out.below hb
                have HBC : Hid (Below w.heap.size w WC) := HBB.out.trans (hb.mono HBB.out.size)
                clear hv hb HBB HU
                generalize errOf la ((andOf lb lc).getD []) = q2
                have em : (m1 == m1) = true := by simp
                go_wp2_with fail
                refine (same_yes u v _ _ HUC.out HV.out).mono ?_
                rintro e WD ⟨rfl, hb⟩
                have HBD : Hid (Below w.heap.size w WD) := HBC.out.trans (hb.mono HBC.out.size)
                clear hb
                go_wp2_with fail
                go_ret
                exact ⟨rfl, HBD.out⟩
          · go_wp2_with fail
            go_ret
            exact ⟨rfl, HBA.out⟩
        · go_wp2_with fail
          go_ret
          exact ⟨rfl, HBA.out⟩
      · have H4 : Hid _ := hi4
        have HEQ : Hid _ := imp_anti hi1 hi4
        clear hi1 hi2 hi4
        refine (implies_any va vb la lb _ (HA.out.below HB4.out) (HBb.out.below HB4.out)).mono ?_
        rw [H1.out]
        rintro e W5 ⟨rfl, hb⟩
        have HX5 : Hid (TV W5 x ((andOf la lb).getD [])) := HX4.out.below hb
        have HB5 : Hid (Below w.heap.size w W5) := HB4.out.trans (hb.mono HB4.out.size)
        clear hb HX4 HB4
        go_wp2_with fail
        refine (implies_any vb vc lb lc _ (HBb.out.below HB5.out) (HC.out.below HB5.out)).mono ?_
        rw [H2.out]
        rintro e W6 ⟨rfl, hb⟩
        have HX6 : Hid (TV W6 x ((andOf la lb).getD [])) := HX5.out.below hb
        have HB6 : Hid (Below w.heap.size w W6) := HB5.out.trans (hb.mono HB5.out.size)
        clear hb HX5 HB5
        go_wp2_with fail
        refine (implies_any va vc la lc _ (HA.out.below HB6.out) (HC.out.below HB6.out)).mono ?_
        rw [H3.out]
        rintro e W7 ⟨rfl, hb⟩
        have HX7 : Hid (TV W7 x ((andOf la lb).getD [])) := HX6.out.below hb
        have HB7 : Hid (Below w.heap.size w W7) := HB6.out.trans (hb.mono HB6.out.size)
        clear hb HX6 HB6
        go_wp2_with fail
        refine (implies_any va vb la lb _ (HA.out.below HB7.out) (HBb.out.below HB7.out)).mono ?_
        rw [H1.out]
        rintro e W8 ⟨rfl, hb⟩
        have HX8 : Hid (TV W8 x ((andOf la lb).getD [])) := HX7.out.below hb
        have HB8 : Hid (Below w.heap.size w W8) := HB7.out.trans (hb.mono HB7.out.size)
        clear hb HX7 HB7
        go_wp2_with fail
        refine (implies_any vb va lb la _ (HBb.out.below HB8.out) (HA.out.below HB8.out)).mono ?_
        rw [H4.out]
        rintro e W9 ⟨rfl, hb⟩
        have HX9 : Hid (TV W9 x ((andOf la lb).getD [])) := HX8.out.below hb
        have HB9 : Hid (Below w.heap.size w W9) := HB8.out.trans (hb.mono HB8.out.size)
        clear hb HX8 HB8
        go_wp2_with fail
        refine (same_yes va vb la _ (HA.out.below HB9.out) (by have := HBb.out.below HB9.out; rw [HEQ.out] at this; exact this)).mono ?_
        rintro e W10 ⟨rfl, hb⟩
        have HX10 : Hid (TV W10 x ((andOf la lb).getD [])) := HX9.out.below hb
        have HB10 : Hid (Below w.heap.size w W10) := HB9.out.trans (hb.mono HB9.out.size)
        clear hb HX9 HB9
        go_wp2_with fail
        refine (and_any vb vc lb lc _ (HBb.out.below HB10.out) (HC.out.below HB10.out)).mono ?_
        rintro e WA ⟨z, rfl, hz, hb⟩
        have HZ : Hid (TV WA z ((andOf lb lc).getD [])) := hz
        have HXA : Hid (TV WA x ((andOf la lb).getD [])) := HX10.out.below hb
        have HBA : Hid (Below w.heap.size w WA) := HB10.out.trans (hb.mono HB10.out.size)
        clear hb hz HX10 HB10
        generalize hr : (andOf lb lc).isSome = r1
        generalize hg : errOf lb lc = g1
        have HR : Hid _ := hr
        clear hr hg
        cases he1 : (e1 != 0)
        · cases hg1 : (g1 != 0)
          · cases p1
            · go_wp2_with fail
              go_ret
              exact ⟨rfl, HBA.out⟩
            · cases r1
              · go_wp2_with fail
                go_ret
                exact ⟨rfl, HBA.out⟩
              · have HXS : Hid _ := getD_of HP.out rfl
                have HZS : Hid _ := getD_of HR.out rfl
                have HAS : Hid _ := and_assoc' HXS.out HZS.out
                clear ep ee
                go_wp2_with fail
                refine (and_any x vc _ lc _ HXA.out (HC.out.below HBA.out)).mono ?_
                rintro e WB ⟨u, rfl, hu, hb⟩
                have HU : Hid (TV WB u ((andOf ((andOf la lb).getD []) lc).getD [])) := hu
                have HZB : Hid (TV WB z ((andOf lb lc).getD [])) := HZ.out.below hb
                have HBB : Hid (Below w.heap.size w WB) := HBA.out.trans (hb.mono HBA.out.size)
                clear hu hb HBA HXA HZ
                generalize hm : (andOf ((andOf la lb).getD []) lc).isSome = m1
                generalize errOf ((andOf la lb).getD []) lc = q1
                have HM : Hid _ := hm
                clear hm
                go_wp2_with fail
                refine (and_any va z la _ _ (HA.out.below HBB.out) HZB.out).mono ?_
                rw [HAS.out, HM.out]
                rintro e WC ⟨v, rfl, hv, hb⟩
                have HV : Hid (TV WC v ((andOf ((andOf la lb).getD []) lc).getD [])) := hv
                have HUC : Hid (TV WC u ((andOf ((andOf la lb).getD []) lc).getD [])) := HU.out.below hb
                have HBC : Hid (Below w.heap.size w WC) := HBB.out.trans (hb.mono HBB.out.size)
                clear hv hb HBB HU
                generalize errOf la ((andOf lb lc).getD []) = q2
                have em : (m1 == m1) = true := by simp
                go_wp2_with fail
                refine (same_yes u v _ _ HUC.out HV.out).mono ?_
                rintro e WD ⟨rfl, hb⟩
                have HBD : Hid (Below w.heap.size w WD) := HBC.out.trans (hb.mono HBC.out.size)
                clear hb
                go_wp2_with fail
                go_ret
                exact ⟨rfl, HBD.out⟩
          · go_wp2_with fail
            go_ret
            exact ⟨rfl, HBA.out⟩
        · go_wp2_with fail
          go_ret
          exact ⟨rfl, HBA.out⟩
end Go.Proofs.YtpinhnkceaephaaDoor
