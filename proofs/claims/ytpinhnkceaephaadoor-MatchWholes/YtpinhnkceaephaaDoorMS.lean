/- The walk of MatchPairs. Conditions: the terms can be read; the table of trailing zeros holds 4 at its fifteenth place. -/
import Derived.Test.YtpinhnkceaephaaDoorMR
namespace Go.Proofs.YtpinhnkceaephaaDoor
open Go.RowKit
theorem copy_tv {w2 : World} {base : Nat} {a' : Option Addr} {n cap' : Nat} {ts : List Tm} (h : w2.ownsRow base 55 3 (.slice a' n cap') n (rowT ts)) (hl : ts.length = n) (hr : n ≤ 5864062014805) : TV w2 (.slice a' n cap') ts := by
  subst hl
  exact own_tv' h hr rfl
set_option maxRecDepth 20000 in
set_option maxHeartbeats 2000000 in
theorem pairs_any (va vb : Value) (la lb : List Tm) (w : World) (ha : TV w va la) (hb : TV w vb lb) (htab : w.cell? ⟨2, 15, none⟩ = some (.int .u8 4)) :
    Calls Tryd.prog 3 #[va, vb] w fun e w' => e = .returned (.bool true) ∧ Below w.heap.size w w' := by
  have HA : Hid (TV w va la) := ha
  have HBb : Hid (TV w vb lb) := hb
  have HT : Hid _ := htab
  have hgl : 2 < w.heap.size := cell_lt htab
  have HGL : Hid _ := hgl
  obtain ⟨a1, n1, c1, rfl, _, h1⟩ := ha
  obtain ⟨a2, n2, c2, rfl, _, h2⟩ := hb
  have l1 := h1.len
  have l2 := h2.len
  have r1 := h1.room
  have r2 := h2.room
  have H1 : Hid (TS w a1 n1 la) := h1
  have H2 : Hid (TS w a2 n2 lb) := h2
  clear h1 h2 htab hgl
  go_enter Tryd.func3, Tryd.ntmps3
  go_wp2_with (at_builtin; go_must (refine wpList_append_ts (by rfl) (.tmp 12) (.tmp 13) rfl rfl w.heap.size _ [] rfl (own_emptyT w _ rfl) a1 n1 c1 la rfl (H1.out.below (below1 w _)) (by simp; omega) (by simp) ?_))
  intro b1 d1 W1 ho hg
  have HX1 : Hid (TV W1 (.slice b1 n1 d1) la) := copy_tv (base := w.heap.size) (by simpa [l1] using ho) l1 r1
  have HB1 : Hid (Below w.heap.size w W1) := grown_below (below1 w _) (own_emptyT w _ rfl) hg
  clear ho hg
  go_wp2_with (at_builtin; go_must (refine wpList_append_ts (by rfl) (.tmp 15) (.tmp 16) rfl rfl W1.heap.size _ [] rfl (own_emptyT W1 _ rfl) a2 n2 c2 lb rfl ((H2.out.below HB1.out).below (below1 W1 _)) (by simp; omega) (by simp) ?_))
  intro b2 d2 W2 ho hg
  have HX2 : Hid (TV W2 (.slice b2 n2 d2) lb) := copy_tv (base := W1.heap.size) (by simpa [l2] using ho) l2 r2
  have hgb : Below W1.heap.size W1 W2 := grown_below (below1 W1 _) (own_emptyT W1 _ rfl) hg
  have HX12 : Hid (TV W2 (.slice b1 n1 d1) la) := HX1.out.below hgb
  have HB2 : Hid (Below w.heap.size w W2) := HB1.out.trans (hgb.mono HB1.out.size)
  clear ho hg hgb HX1 HB1
  go_wp2_with fail
  refine (and_any _ _ la lb _ (by simpa using HX12.out) (by simpa using HX2.out)).mono ?_
  rintro e W3 ⟨x, rfl, hx, hb⟩
  have HX : Hid (TV W3 x ((andOf la lb).getD [])) := hx
  have HB3 : Hid (Below w.heap.size w W3) := HB2.out.trans (hb.mono HB2.out.size)
  clear hb hx HB2 HX12 HX2
  generalize hp : (andOf la lb).isSome = p1
  generalize he : errOf la lb = e1
  have HP : Hid _ := hp
  have HE : Hid _ := he
  clear hp he
  go_wp2_with fail
  refine (rand_any _ _ la lb _ (HA.out.below HB3.out) (HBb.out.below HB3.out)).mono ?_
  rw [HP.out, HE.out]
  rintro e W4 ⟨y, rfl, hy, hb⟩
  have HY : Hid (TV W4 y ((andOf la lb).getD [])) := hy
  have HX4 : Hid (TV W4 x ((andOf la lb).getD [])) := HX.out.below hb
  have HB4 : Hid (Below w.heap.size w W4) := HB3.out.trans (hb.mono HB3.out.size)
  clear hb hy HB3 HX
  go_wp2_with fail
  refine (lives_any _ ((HB4.out.cell (p := ⟨2, 15, none⟩) HGL.out).trans HT.out)).mono ?_
  rintro e W5 ⟨rfl, hb⟩
  have HY5 : Hid (TV W5 y ((andOf la lb).getD [])) := HY.out.below hb
  have HX5 : Hid (TV W5 x ((andOf la lb).getD [])) := HX4.out.below hb
  have HB5 : Hid (Below w.heap.size w W5) := HB4.out.trans (hb.mono HB4.out.size)
  clear hb HY HX4 HB4
  go_wp2_with fail
  refine (same_yes x y _ _ HX5.out HY5.out).mono ?_
  rintro e W6 ⟨rfl, hb⟩
  have HB6 : Hid (Below w.heap.size w W6) := HB5.out.trans (hb.mono HB5.out.size)
  clear hb HX5 HY5 HB5
  have ep : (p1 == p1) = true := by simp
  have ee : (e1 == e1) = true := by simp
  go_wp2_with fail
  refine (implies_any _ _ la lb _ (HA.out.below HB6.out) (HBb.out.below HB6.out)).mono ?_
  rintro e W7 ⟨rfl, hb⟩
  have HB7 : Hid (Below w.heap.size w W7) := HB6.out.trans (hb.mono HB6.out.size)
  clear hb HB6
  generalize hi : impOf la lb = i1
  have HI : Hid _ := hi
  clear hi
  have ei : (i1 == i1) = true := by simp
  go_wp2_with fail
  refine (rimplies_any _ _ la lb _ (HA.out.below HB7.out) (HBb.out.below HB7.out)).mono ?_
  rw [HI.out]
  rintro e W8 ⟨rfl, hb⟩
  have HB8 : Hid (Below w.heap.size w W8) := HB7.out.trans (hb.mono HB7.out.size)
  clear hb HB7
  go_wp2_with fail
  refine (meet_any _ _ la lb _ (HA.out.below HB8.out) (HBb.out.below HB8.out)).mono ?_
  rw [HP.out]
  rintro e W9 ⟨rfl, hb⟩
  have HB9 : Hid (Below w.heap.size w W9) := HB8.out.trans (hb.mono HB8.out.size)
  clear hb HB8
  go_wp2_with fail
  refine (rmeet_any _ _ la lb _ (HA.out.below HB9.out) (HBb.out.below HB9.out)).mono ?_
  rw [HP.out]
  rintro e WA ⟨rfl, hb⟩
  have HBA : Hid (Below w.heap.size w WA) := HB9.out.trans (hb.mono HB9.out.size)
  clear hb HB9
  go_wp2_with fail
  go_ret
  exact ⟨rfl, HBA.out⟩
end Go.Proofs.YtpinhnkceaephaaDoor
