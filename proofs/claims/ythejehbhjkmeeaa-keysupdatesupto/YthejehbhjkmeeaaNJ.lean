/- The document's own Update. Conditions: keys and rows can be read; the keys are not too many. -/
import Derived.Test.YthejehbhjkmeeaaNI
namespace Go.Proofs.Ythejehbhjkmeeaa
open Go.RowKit
theorem names_ok (kind : Int) {a : Option Addr} {n : Nat} {rs : List Rw} {w : World} (h : RS w a n rs) : (srt (namesOf kind rs)).length ≤ 1034834473201 ∧ ∀ x ∈ srt (namesOf kind rs), x.size ≤ maxLen := by
  have hk := keptS_ok [] kind h
  have hn := keptS_names [] kind rs
  constructor
  · have := congrArg List.length hn
    rw [List.length_map] at this
    omega
  · intro x hx
    rw [← hn] at hx
    obtain ⟨k, hk', rfl⟩ := List.mem_map.1 hx
    exact hk.2 k hk'
theorem pair_call {w W : World} {a1 a2 : Option Addr} {n1 c1 n2 c2 : Nat} {a b : List Ky} {x1 x2 : Option Addr} {m1 d1 m2 d2 : Nat} {X Y : List ByteArray} {most : Int} (h1 : KV w (.slice a1 n1 c1) a) (h2 : KV w (.slice a2 n2 c2) b) (hb : Below w.heap.size w W) (oX : W.ownsRow w.heap.size 9 1 (.slice x1 m1 d1) X.length (X.map Value.string)) (oY : W.ownsRow w.heap.size 9 1 (.slice x2 m2 d2) Y.length (Y.map Value.string)) (hX : X.length ≤ 1034834473201 ∧ ∀ x ∈ X, x.size ≤ maxLen) (hY : Y.length ≤ 1034834473201 ∧ ∀ x ∈ Y, x.size ≤ maxLen) :
    Calls Try.prog 21 #[.slice a1 n1 c1, .slice a2 n2 c2, .slice x1 m1 d1, .slice x2 m2 d2, .int .i64 most] W fun e w' => ∃ p q, e = .returned (.tuple #[p, q, .bool (pairB a b X Y most)]) ∧ KV w' p (pairP a b X Y).1 ∧ KV w' q (pairQ a b X Y).1 ∧ Below W.heap.size W w' := by
  have s1 := (own_ss oX).1
  have s2 := (own_ss oY).1
  exact pair_any _ _ a b _ _ _ X _ _ _ Y most W (h1.below hb) (h2.below hb) s1 s2 (by rw [← s1.len]; exact hX.1) (by rw [← s2.len]; exact hY.1) hX.2 hY.2
theorem nilK_at {i : Nat} {v : Value} (h : nilK[i]? = some v) : v = .slice none 0 0 := by
  unfold nilK at h
  match i, h with
  | 0, h | 1, h | 2, h | 3, h => simp at h; exact h.symm
  | i + 4, h => simp at h
theorem KV.store {W W' : World} {v : Value} {A : List Ky} {g : Nat} (h : KV W v A) (hg : W.heap[g]? = some (.cells nilK 24 (0, 0))) (hs : ∀ k, k ≠ g → W'.heap[k]? = W.heap[k]?) : KV W' v A := by
  obtain ⟨a, n, c, e, hc, k⟩ := h
  refine ⟨a, n, c, e, hc, k.len, k.room, k.short, ?_⟩
  rcases k.cells with h0 | ⟨b, off, rfl, hcell⟩
  · exact .inl h0
  · refine .inr ⟨b, off, rfl, fun i t hi => ?_⟩
    obtain ⟨c0, c1⟩ := hcell i t hi
    have hne : b ≠ g := fun e => by
      subst e
      rw [cell_row hg] at c0
      have := nilK_at c0
      cases this
    have key : ∀ o, W'.cell? ⟨b, o, none⟩ = W.cell? ⟨b, o, none⟩ := fun o => by unfold World.cell?; simp only [hs b hne]
    exact ⟨(key _).trans c0, (key _).trans c1⟩
set_option linter.unusedSimpArgs false in
set_option maxRecDepth 20000 in
set_option maxHeartbeats 8000000 in
theorem rupdate_any (v1 v2 v3 v4 : Value) (a b c d : List Ky) (a2 : Option Addr) (n2 c2 : Nat) (rs : List Rw) (w : World) (h1 : KV w v1 a) (h2 : KV w v2 b) (h3 : KV w v3 c) (h4 : KV w v4 d) (hR : RS w a2 n2 rs) (hl : a.length + b.length ≤ 5864062014805) (hl2 : c.length + d.length ≤ 5864062014805) :
    Calls Try.prog 11 #[.agg #[v1, v2, v3, v4], .slice a2 n2 c2] w fun e w' => UpdPost w (updS a b c d rs) e w' := by
  have HCH : Hid (∀ W, Below w.heap.size w W → Calls Try.prog 9 #[.agg #[v1, v2, v3, v4]] W fun e w' => e = .returned (.int .i64 (chkE a b c d)) ∧ Below W.heap.size W w') := fun W hW =>
    rcheck_any _ _ _ _ a b c d W (h1.below hW) (h2.below hW) (h3.below hW) (h4.below hW) hl hl2
  have HNM : Hid (∀ W kind, Below w.heap.size w W → Calls Try.prog 22 #[.slice a2 n2 c2, .int .i64 kind] W fun e w' => ∃ v, e = .returned v ∧ w'.ownsRow W.heap.size 9 1 v (srt (namesOf kind rs)).length ((srt (namesOf kind rs)).map Value.string) ∧ Below W.heap.size W w') := fun W kind hW =>
    names_any _ _ _ rs kind W (hR.below hW)
  obtain ⟨a1, n1, c1, rfl⟩ := keys_slices h1
  obtain ⟨a3, n3, c3, rfl⟩ := keys_slices h2
  obtain ⟨a4, n4, c4, rfl⟩ := keys_slices h3
  obtain ⟨a5, n5, c5, rfl⟩ := keys_slices h4
  have K1 : Hid (KV w (.slice a1 n1 c1) a) := h1
  have K2 : Hid (KV w (.slice a3 n3 c3) b) := h2
  have K3 : Hid (KV w (.slice a4 n4 c4) c) := h3
  have K4 : Hid (KV w (.slice a5 n5 c5) d) := h4
  have O1 : Hid _ := names_ok 1 hR
  have O3 : Hid _ := names_ok 3 hR
  have O2 : Hid _ := names_ok 2 hR
  have O4 : Hid _ := names_ok 4 hR
  have HBX : Hid _ := two_first w (.cells #[.slice a1 n1 c1, .slice a3 n3 c3, .slice a4 n4 c4, .slice a5 n5 c5] 24) (.cells nilK 24)
  clear h1 h2 h3 h4 hR
  go_enter Try.func11, Try.ntmps11
  go_wp2_with (first
    | refine wpList_load_row rfl 24 _ rfl w.heap.size rfl 24 #[.slice a1 n1 c1, .slice a3 n3 c3, .slice a4 n4 c4, .slice a5 n5 c5] (0, 0) _ HBX.out Try.underlying24 rfl size4k ?_
    | fail)
  refine (HCH.out _ (below2 _ _ _)).mono ?_
  rintro e W1 ⟨rfl, hb1⟩
  have HW1 : Hid (Below w.heap.size w W1) := (below2 _ _ _).trans (hb1.mono (by simp; omega))
  have HX1 : Hid (W1.heap[w.heap.size]? = some (.cells #[.slice a1 n1 c1, .slice a3 n3 c3, .slice a4 n4 c4, .slice a5 n5 c5] 24 (0, 0))) := (hb1.block _ (by simp; omega)).trans HBX.out
  have HX2 : Hid (W1.heap[w.heap.size + 1]? = some (.cells nilK 24 (0, 0))) := (hb1.block _ (by simp)).trans (two_last _ _ _)
  clear hb1 HCH
  by_cases hch : chkE a b c d = 0
  rotate_left
  · have hc190 : chkE a b c d = 190 := (chkE_cases a b c d).resolve_left hch
    have HN : Hid (updS a b c d rs = none) := by show _ = _; unfold updS; rw [if_neg hch]
    rw [hc190]
    clear hch hc190
    go_wp2_with (first
      | (refine wpList_store_row rfl 24 _ _ rfl (w.heap.size + 1) nilK nilK 24 rfl rfl HX2.out size4k rfl (by kernel_rfl) ?_; intro W2 z1 z2 z3 z4)
      | fail)
    unfold UpdPost
    rw [HN.out]
    exact bodyPost_ret (results_keys (p := 4) (u := 5) rfl _ _ (w.heap.size + 1) nilK rfl z1 rfl) rfl ⟨HW1.out.trans (z4.mono (by omega)), rfl⟩
  · have HU : Hid (updS a b c d rs = (accF 16777215 (two (keptS a 1 rs) (keptS b 3 rs)) 2).bind fun x => (accF 65535 (two (keptS c 2 rs) (keptS d 4 rs)) 2).map fun y => (x.2.2 0, x.2.2 1, y.2.2 0, y.2.2 1)) := by show _ = _; unfold updS; rw [if_pos hch]
    obtain ⟨hr1, hr2⟩ := chkE_zero.1 hch
    have HE1 : Hid _ := pair_eq (most := 16777215) (by omega) hr1 1 3 rs
    have HE2 : Hid _ := pair_eq (most := 65535) (by omega) hr2 2 4 rs
    rw [hch]
    clear hch hr1 hr2
    have HXW1 : Hid _ := HX1.out
    have HYW1 : Hid _ := HX2.out
    go_wp2_with fail
    have HSWs : Hid (∀ V, Below W1.heap.size W1 V → V.cell? ⟨w.heap.size, 0, none⟩ = some (.slice a1 n1 c1) ∧ V.cell? ⟨w.heap.size, 1, none⟩ = some (.slice a3 n3 c3)) := fun V hV => by
      have := (hV.block _ (lt_of_heap HXW1.out)).trans HXW1.out
      exact ⟨cell_row this 0, cell_row this 1⟩
    refine wp_region_held_drew (S := (fun V => V.cell? ⟨w.heap.size, 0, none⟩ = some (.slice a1 n1 c1) ∧ V.cell? ⟨w.heap.size, 1, none⟩ = some (.slice a3 n3 c3))) (by kernel_rfl) ?_ (fun hHeld => ?_)
    · exact HSWs.out _ (Below.refl _ _).drew
    refine wpAnyH_take (i := 0) (v := ?_) rfl (by kernel_rfl) (by kernel_rfl) (by kernel_rfl) (fun _ _ _ h => h) (Or.inl ⟨by rfl, ?_⟩) (by assumption) ?_
    rotate_left
    · (intro w hSw; (try dsimp only at hSw); go_simp; try with_reducible rfl)
    try simp only [List.getElem_toArray, List.getElem_cons_zero, List.getElem_cons_succ, Act.put, List.setIfInBounds_toArray, List.set_cons_zero, List.set_cons_succ]
    refine wpAnyH_take (i := 1) (v := ?_) rfl (by kernel_rfl) (by kernel_rfl) (by kernel_rfl) (fun _ _ _ h => h) (Or.inl ⟨by rfl, ?_⟩) (by assumption) ?_
    rotate_left
    · (intro w hSw; (try dsimp only at hSw); go_simp; try with_reducible rfl)
    try simp only [List.getElem_toArray, List.getElem_cons_zero, List.getElem_cons_succ, Act.put, List.setIfInBounds_toArray, List.set_cons_zero, List.set_cons_succ]
    refine wpAnyH_take (i := 2) (v := ?_) rfl (by kernel_rfl) (by kernel_rfl) (by kernel_rfl) (fun _ _ _ h => h) (Or.inl ⟨by rfl, ?_⟩) (by assumption) ?_
    rotate_left
    · (intro w hSw; (try dsimp only at hSw); go_simp; try with_reducible rfl)
    try simp only [List.getElem_toArray, List.getElem_cons_zero, List.getElem_cons_succ, Act.put, List.setIfInBounds_toArray, List.set_cons_zero, List.set_cons_succ]
    refine wpAnyH_take (i := 3) (v := ?_) rfl (by kernel_rfl) (by kernel_rfl) (by kernel_rfl) (fun _ _ _ h => h) (Or.inl ⟨by rfl, ?_⟩) (by assumption) ?_
    rotate_left
    · (intro w hSw; (try dsimp only at hSw); go_simp; try with_reducible rfl)
    try simp only [List.getElem_toArray, List.getElem_cons_zero, List.getElem_cons_succ, Act.put, List.setIfInBounds_toArray, List.set_cons_zero, List.set_cons_succ]
    refine wpAnyH_take (i := 4) (v := ?_) rfl (by kernel_rfl) (by kernel_rfl) (by kernel_rfl) (fun _ _ _ h => h) (Or.inl ⟨by rfl, ?_⟩) (by assumption) ?_
    rotate_left
    · (intro w hSw; (try dsimp only at hSw); go_simp; try with_reducible rfl)
    try simp only [List.getElem_toArray, List.getElem_cons_zero, List.getElem_cons_succ, Act.put, List.setIfInBounds_toArray, List.set_cons_zero, List.set_cons_succ]
    refine wpAnyH_take (i := 6) (v := ?_) rfl (by kernel_rfl) (by kernel_rfl) (by kernel_rfl) (fun _ _ _ h => h) (Or.inl ⟨by rfl, ?_⟩) (by assumption) ?_
    rotate_left
    · (intro w hSw; (try dsimp only at hSw); go_simp; try with_reducible rfl)
    try simp only [List.getElem_toArray, List.getElem_cons_zero, List.getElem_cons_succ, Act.put, List.setIfInBounds_toArray, List.set_cons_zero, List.set_cons_succ]
    refine wpAnyH_ready (rs := [5]) (by kernel_rfl) (by simp) ?_
    refine AllReadyH.cons (o := _) rfl (fun K hK => ?_) AllReadyH.nil
    go_simp
    refine (HNM.out _ 1 (HW1.out.trans (((Below.refl _ _).drew).mono HW1.out.size))).mono ?_
    rintro e Vs1 ⟨u9, rfl, o9, hb9⟩
    obtain ⟨xs1, ys1, rfl, _⟩ := own_form3 o9
    have Bs1 : Hid (Below W1.heap.size W1 Vs1) := (Below.refl _ _).drew.trans (hb9.mono (by simp))
    have OXs : Hid (Vs1.ownsRow w.heap.size 9 1 _ (srt (namesOf 1 rs)).length ((srt (namesOf 1 rs)).map Value.string)) := own_base o9 (by have := HW1.out.size; simpa using this)
    clear o9 hb9
    go_wp2_with fail
    refine hK.out _ _ (HSWs.out _ Bs1.out) (fun hHeld2 => ?_)
    clear hK K hHeld
    have hHeld := hHeld2
    clear hHeld2
    try simp only [List.getElem_toArray, List.getElem_cons_zero, List.getElem_cons_succ, Act.put, List.setIfInBounds_toArray, List.set_cons_zero, List.set_cons_succ]
    refine wpAnyH_ready (rs := [7]) (by kernel_rfl) (by simp) ?_
    refine AllReadyH.cons (o := _) rfl (fun K hK => ?_) AllReadyH.nil
    go_simp
    refine (HNM.out _ 3 (HW1.out.trans (Bs1.out.mono HW1.out.size))).mono ?_
    rintro e Vs2 ⟨u9, rfl, o9, hb9⟩
    obtain ⟨xs2, ys2, rfl, _⟩ := own_form3 o9
    have Bs2 : Hid (Below W1.heap.size W1 Vs2) := Bs1.out.trans (hb9.mono Bs1.out.size)
    have OXs' : Hid (Vs2.ownsRow w.heap.size 9 1 _ (srt (namesOf 1 rs)).length ((srt (namesOf 1 rs)).map Value.string)) := own_below OXs.out hb9
    have OYs : Hid (Vs2.ownsRow w.heap.size 9 1 _ (srt (namesOf 3 rs)).length ((srt (namesOf 3 rs)).map Value.string)) := own_base o9 (Nat.le_trans HW1.out.size Bs1.out.size)
    clear o9 hb9
    go_wp2_with fail
    refine hK.out _ _ (HSWs.out _ Bs2.out) (fun hHeld2 => ?_)
    clear hK K hHeld
    have hHeld := hHeld2
    clear hHeld2
    try simp only [List.getElem_toArray, List.getElem_cons_zero, List.getElem_cons_succ, Act.put, List.setIfInBounds_toArray, List.set_cons_zero, List.set_cons_succ]
    refine wpAnyH_ready (rs := [8]) (by kernel_rfl) (by simp) ?_
    refine AllReadyH.cons (o := _) rfl (fun K hK => ?_) AllReadyH.nil
    go_simp
    refine (pair_call K1.out K2.out (HW1.out.trans (Bs2.out.mono HW1.out.size)) OXs'.out OYs.out O1.out O3.out).mono ?_
    rintro e W2 ⟨p9, q9, rfl, kp9, kq9, hb9⟩
    obtain ⟨pas, pns, pcs, rfl⟩ := keys_slices kp9
    obtain ⟨qas, qns, qcs, rfl⟩ := keys_slices kq9
    have Bs3 : Hid (Below W1.heap.size W1 W2) := Bs2.out.trans (hb9.mono Bs2.out.size)
    have BWs : Hid (Below w.heap.size w W2) := HW1.out.trans (Bs3.out.mono HW1.out.size)
    have HXW2 : Hid (W2.heap[w.heap.size]? = some (.cells #[.slice a1 n1 c1, .slice a3 n3 c3, .slice a4 n4 c4, .slice a5 n5 c5] 24 (0, 0))) := (Bs3.out.block _ (lt_of_heap HXW1.out)).trans HXW1.out
    have HYW2 : Hid (W2.heap[w.heap.size + 1]? = some (.cells nilK 24 (0, 0))) := (Bs3.out.block _ (lt_of_heap HYW1.out)).trans HYW1.out
    have KPs : Hid (KV W2 (.slice pas pns pcs) (pairP a b (srt (namesOf 1 rs)) (srt (namesOf 3 rs))).1) := kp9
    have KQs : Hid (KV W2 (.slice qas qns qcs) (pairQ a b (srt (namesOf 1 rs)) (srt (namesOf 3 rs))).1) := kq9
    clear kp9 kq9 hb9
    go_wp2_with fail
    refine hK.out _ _ (HSWs.out _ Bs3.out) (fun hHeld2 => ?_)
    clear hK K hHeld
    have hHeld := hHeld2
    clear hHeld2
    try simp only [List.getElem_toArray, List.getElem_cons_zero, List.getElem_cons_succ, Act.put, List.setIfInBounds_toArray, List.set_cons_zero, List.set_cons_succ]
    refine wpAnyH_take (i := 9) (v := ?_) rfl (by kernel_rfl) (by kernel_rfl) (by kernel_rfl) (fun _ _ _ h => h) (Or.inl ⟨by rfl, ?_⟩) (by assumption) ?_
    rotate_left
    · (intro w hSw; (try dsimp only at hSw); go_simp; try with_reducible rfl)
    try simp only [List.getElem_toArray, List.getElem_cons_zero, List.getElem_cons_succ, Act.put, List.setIfInBounds_toArray, List.set_cons_zero, List.set_cons_succ]
    refine wpAnyH_take (i := 10) (v := ?_) rfl (by kernel_rfl) (by kernel_rfl) (by kernel_rfl) (fun _ _ _ h => h) (Or.inl ⟨by rfl, ?_⟩) (by assumption) ?_
    rotate_left
    · (intro w hSw; (try dsimp only at hSw); go_simp; try with_reducible rfl)
    try simp only [List.getElem_toArray, List.getElem_cons_zero, List.getElem_cons_succ, Act.put, List.setIfInBounds_toArray, List.set_cons_zero, List.set_cons_succ]
    refine wpAnyH_take (i := 11) (v := ?_) rfl (by kernel_rfl) (by kernel_rfl) (by kernel_rfl) (fun _ _ _ h => h) (Or.inl ⟨by rfl, ?_⟩) (by assumption) ?_
    rotate_left
    · (intro w hSw; (try dsimp only at hSw); go_simp; try with_reducible rfl)
    try simp only [List.getElem_toArray, List.getElem_cons_zero, List.getElem_cons_succ, Act.put, List.setIfInBounds_toArray, List.set_cons_zero, List.set_cons_succ]
    refine wpAnyH_take (i := 12) (v := ?_) rfl (by kernel_rfl) (by kernel_rfl) (by kernel_rfl) (fun _ _ _ h => h) (Or.inl ⟨by rfl, ?_⟩) (by assumption) ?_
    rotate_left
    · (intro w hSw; (try dsimp only at hSw); go_simp; try with_reducible rfl)
    try simp only [List.getElem_toArray, List.getElem_cons_zero, List.getElem_cons_succ, Act.put, List.setIfInBounds_toArray, List.set_cons_zero, List.set_cons_succ]
    refine wpAnyH_take (i := 13) (v := ?_) rfl (by kernel_rfl) (by kernel_rfl) (by kernel_rfl) (fun _ _ _ h => h) (Or.inl ⟨by rfl, ?_⟩) (by assumption) ?_
    rotate_left
    · (intro w hSw; (try dsimp only at hSw); go_simp; try with_reducible rfl)
    try simp only [List.getElem_toArray, List.getElem_cons_zero, List.getElem_cons_succ, Act.put, List.setIfInBounds_toArray, List.set_cons_zero, List.set_cons_succ]
    refine wpAnyH_take (i := 14) (v := ?_) rfl (by kernel_rfl) (by kernel_rfl) (by kernel_rfl) (fun _ _ _ h => h) (Or.inl ⟨by rfl, ?_⟩) (by assumption) ?_
    rotate_left
    · (intro w hSw; (try dsimp only at hSw); go_simp; try with_reducible rfl)
    try simp only [List.getElem_toArray, List.getElem_cons_zero, List.getElem_cons_succ, Act.put, List.setIfInBounds_toArray, List.set_cons_zero, List.set_cons_succ]
    refine wpAnyH_take (i := 15) (v := ?_) rfl (by kernel_rfl) (by kernel_rfl) (by kernel_rfl) (fun _ _ _ h => h) (Or.inl ⟨by rfl, ?_⟩) (by assumption) ?_
    rotate_left
    · (intro w hSw; (try dsimp only at hSw); go_simp; try with_reducible rfl)
    try simp only [List.getElem_toArray, List.getElem_cons_zero, List.getElem_cons_succ, Act.put, List.setIfInBounds_toArray, List.set_cons_zero, List.set_cons_succ]
    refine wpAnyH_done (by kernel_rfl) ?_ _
    clear hHeld OXs OXs' OYs HSWs Bs1 Bs2
    go_wp2_with fail
    have HSWt : Hid (∀ V, Below W2.heap.size W2 V → V.cell? ⟨w.heap.size, 2, none⟩ = some (.slice a4 n4 c4) ∧ V.cell? ⟨w.heap.size, 3, none⟩ = some (.slice a5 n5 c5)) := fun V hV => by
      have := (hV.block _ (lt_of_heap HXW2.out)).trans HXW2.out
      exact ⟨cell_row this 2, cell_row this 3⟩
    refine wp_region_held_drew (S := (fun V => V.cell? ⟨w.heap.size, 2, none⟩ = some (.slice a4 n4 c4) ∧ V.cell? ⟨w.heap.size, 3, none⟩ = some (.slice a5 n5 c5))) (by kernel_rfl) ?_ (fun hHeld => ?_)
    · exact HSWt.out _ (Below.refl _ _).drew
    refine wpAnyH_take (i := 0) (v := ?_) rfl (by kernel_rfl) (by kernel_rfl) (by kernel_rfl) (fun _ _ _ h => h) (Or.inl ⟨by rfl, ?_⟩) (by assumption) ?_
    rotate_left
    · (intro w hSw; (try dsimp only at hSw); go_simp; try with_reducible rfl)
    try simp only [List.getElem_toArray, List.getElem_cons_zero, List.getElem_cons_succ, Act.put, List.setIfInBounds_toArray, List.set_cons_zero, List.set_cons_succ]
    refine wpAnyH_take (i := 1) (v := ?_) rfl (by kernel_rfl) (by kernel_rfl) (by kernel_rfl) (fun _ _ _ h => h) (Or.inl ⟨by rfl, ?_⟩) (by assumption) ?_
    rotate_left
    · (intro w hSw; (try dsimp only at hSw); go_simp; try with_reducible rfl)
    try simp only [List.getElem_toArray, List.getElem_cons_zero, List.getElem_cons_succ, Act.put, List.setIfInBounds_toArray, List.set_cons_zero, List.set_cons_succ]
    refine wpAnyH_take (i := 2) (v := ?_) rfl (by kernel_rfl) (by kernel_rfl) (by kernel_rfl) (fun _ _ _ h => h) (Or.inl ⟨by rfl, ?_⟩) (by assumption) ?_
    rotate_left
    · (intro w hSw; (try dsimp only at hSw); go_simp; try with_reducible rfl)
    try simp only [List.getElem_toArray, List.getElem_cons_zero, List.getElem_cons_succ, Act.put, List.setIfInBounds_toArray, List.set_cons_zero, List.set_cons_succ]
    refine wpAnyH_take (i := 3) (v := ?_) rfl (by kernel_rfl) (by kernel_rfl) (by kernel_rfl) (fun _ _ _ h => h) (Or.inl ⟨by rfl, ?_⟩) (by assumption) ?_
    rotate_left
    · (intro w hSw; (try dsimp only at hSw); go_simp; try with_reducible rfl)
    try simp only [List.getElem_toArray, List.getElem_cons_zero, List.getElem_cons_succ, Act.put, List.setIfInBounds_toArray, List.set_cons_zero, List.set_cons_succ]
    refine wpAnyH_take (i := 4) (v := ?_) rfl (by kernel_rfl) (by kernel_rfl) (by kernel_rfl) (fun _ _ _ h => h) (Or.inl ⟨by rfl, ?_⟩) (by assumption) ?_
    rotate_left
    · (intro w hSw; (try dsimp only at hSw); go_simp; try with_reducible rfl)
    try simp only [List.getElem_toArray, List.getElem_cons_zero, List.getElem_cons_succ, Act.put, List.setIfInBounds_toArray, List.set_cons_zero, List.set_cons_succ]
    refine wpAnyH_take (i := 6) (v := ?_) rfl (by kernel_rfl) (by kernel_rfl) (by kernel_rfl) (fun _ _ _ h => h) (Or.inl ⟨by rfl, ?_⟩) (by assumption) ?_
    rotate_left
    · (intro w hSw; (try dsimp only at hSw); go_simp; try with_reducible rfl)
    try simp only [List.getElem_toArray, List.getElem_cons_zero, List.getElem_cons_succ, Act.put, List.setIfInBounds_toArray, List.set_cons_zero, List.set_cons_succ]
    refine wpAnyH_ready (rs := [5]) (by kernel_rfl) (by simp) ?_
    refine AllReadyH.cons (o := _) rfl (fun K hK => ?_) AllReadyH.nil
    go_simp
    refine (HNM.out _ 2 (BWs.out.trans (((Below.refl _ _).drew).mono BWs.out.size))).mono ?_
    rintro e Vt1 ⟨u9, rfl, o9, hb9⟩
    obtain ⟨xt1, yt1, rfl, _⟩ := own_form3 o9
    have Bt1 : Hid (Below W2.heap.size W2 Vt1) := (Below.refl _ _).drew.trans (hb9.mono (by simp))
    have OXt : Hid (Vt1.ownsRow w.heap.size 9 1 _ (srt (namesOf 2 rs)).length ((srt (namesOf 2 rs)).map Value.string)) := own_base o9 (by have := BWs.out.size; simpa using this)
    clear o9 hb9
    go_wp2_with fail
    refine hK.out _ _ (HSWt.out _ Bt1.out) (fun hHeld2 => ?_)
    clear hK K hHeld
    have hHeld := hHeld2
    clear hHeld2
    try simp only [List.getElem_toArray, List.getElem_cons_zero, List.getElem_cons_succ, Act.put, List.setIfInBounds_toArray, List.set_cons_zero, List.set_cons_succ]
    refine wpAnyH_ready (rs := [7]) (by kernel_rfl) (by simp) ?_
    refine AllReadyH.cons (o := _) rfl (fun K hK => ?_) AllReadyH.nil
    go_simp
    refine (HNM.out _ 4 (BWs.out.trans (Bt1.out.mono BWs.out.size))).mono ?_
    rintro e Vt2 ⟨u9, rfl, o9, hb9⟩
    obtain ⟨xt2, yt2, rfl, _⟩ := own_form3 o9
    have Bt2 : Hid (Below W2.heap.size W2 Vt2) := Bt1.out.trans (hb9.mono Bt1.out.size)
    have OXt' : Hid (Vt2.ownsRow w.heap.size 9 1 _ (srt (namesOf 2 rs)).length ((srt (namesOf 2 rs)).map Value.string)) := own_below OXt.out hb9
    have OYt : Hid (Vt2.ownsRow w.heap.size 9 1 _ (srt (namesOf 4 rs)).length ((srt (namesOf 4 rs)).map Value.string)) := own_base o9 (Nat.le_trans BWs.out.size Bt1.out.size)
    clear o9 hb9
    go_wp2_with fail
    refine hK.out _ _ (HSWt.out _ Bt2.out) (fun hHeld2 => ?_)
    clear hK K hHeld
    have hHeld := hHeld2
    clear hHeld2
    try simp only [List.getElem_toArray, List.getElem_cons_zero, List.getElem_cons_succ, Act.put, List.setIfInBounds_toArray, List.set_cons_zero, List.set_cons_succ]
    refine wpAnyH_ready (rs := [8]) (by kernel_rfl) (by simp) ?_
    refine AllReadyH.cons (o := _) rfl (fun K hK => ?_) AllReadyH.nil
    go_simp
    refine (pair_call K3.out K4.out (BWs.out.trans (Bt2.out.mono BWs.out.size)) OXt'.out OYt.out O2.out O4.out).mono ?_
    rintro e W3 ⟨p9, q9, rfl, kp9, kq9, hb9⟩
    obtain ⟨pat, pnt, pct, rfl⟩ := keys_slices kp9
    obtain ⟨qat, qnt, qct, rfl⟩ := keys_slices kq9
    have Bt3 : Hid (Below W2.heap.size W2 W3) := Bt2.out.trans (hb9.mono Bt2.out.size)
    have BWt : Hid (Below w.heap.size w W3) := BWs.out.trans (Bt3.out.mono BWs.out.size)
    have HXW3 : Hid (W3.heap[w.heap.size]? = some (.cells #[.slice a1 n1 c1, .slice a3 n3 c3, .slice a4 n4 c4, .slice a5 n5 c5] 24 (0, 0))) := (Bt3.out.block _ (lt_of_heap HXW2.out)).trans HXW2.out
    have HYW3 : Hid (W3.heap[w.heap.size + 1]? = some (.cells nilK 24 (0, 0))) := (Bt3.out.block _ (lt_of_heap HYW2.out)).trans HYW2.out
    have KPt : Hid (KV W3 (.slice pat pnt pct) (pairP c d (srt (namesOf 2 rs)) (srt (namesOf 4 rs))).1) := kp9
    have KQt : Hid (KV W3 (.slice qat qnt qct) (pairQ c d (srt (namesOf 2 rs)) (srt (namesOf 4 rs))).1) := kq9
    clear kp9 kq9 hb9
    go_wp2_with fail
    refine hK.out _ _ (HSWt.out _ Bt3.out) (fun hHeld2 => ?_)
    clear hK K hHeld
    have hHeld := hHeld2
    clear hHeld2
    try simp only [List.getElem_toArray, List.getElem_cons_zero, List.getElem_cons_succ, Act.put, List.setIfInBounds_toArray, List.set_cons_zero, List.set_cons_succ]
    refine wpAnyH_take (i := 9) (v := ?_) rfl (by kernel_rfl) (by kernel_rfl) (by kernel_rfl) (fun _ _ _ h => h) (Or.inl ⟨by rfl, ?_⟩) (by assumption) ?_
    rotate_left
    · (intro w hSw; (try dsimp only at hSw); go_simp; try with_reducible rfl)
    try simp only [List.getElem_toArray, List.getElem_cons_zero, List.getElem_cons_succ, Act.put, List.setIfInBounds_toArray, List.set_cons_zero, List.set_cons_succ]
    refine wpAnyH_take (i := 10) (v := ?_) rfl (by kernel_rfl) (by kernel_rfl) (by kernel_rfl) (fun _ _ _ h => h) (Or.inl ⟨by rfl, ?_⟩) (by assumption) ?_
    rotate_left
    · (intro w hSw; (try dsimp only at hSw); go_simp; try with_reducible rfl)
    try simp only [List.getElem_toArray, List.getElem_cons_zero, List.getElem_cons_succ, Act.put, List.setIfInBounds_toArray, List.set_cons_zero, List.set_cons_succ]
    refine wpAnyH_take (i := 11) (v := ?_) rfl (by kernel_rfl) (by kernel_rfl) (by kernel_rfl) (fun _ _ _ h => h) (Or.inl ⟨by rfl, ?_⟩) (by assumption) ?_
    rotate_left
    · (intro w hSw; (try dsimp only at hSw); go_simp; try with_reducible rfl)
    try simp only [List.getElem_toArray, List.getElem_cons_zero, List.getElem_cons_succ, Act.put, List.setIfInBounds_toArray, List.set_cons_zero, List.set_cons_succ]
    refine wpAnyH_take (i := 12) (v := ?_) rfl (by kernel_rfl) (by kernel_rfl) (by kernel_rfl) (fun _ _ _ h => h) (Or.inl ⟨by rfl, ?_⟩) (by assumption) ?_
    rotate_left
    · (intro w hSw; (try dsimp only at hSw); go_simp; try with_reducible rfl)
    try simp only [List.getElem_toArray, List.getElem_cons_zero, List.getElem_cons_succ, Act.put, List.setIfInBounds_toArray, List.set_cons_zero, List.set_cons_succ]
    refine wpAnyH_take (i := 13) (v := ?_) rfl (by kernel_rfl) (by kernel_rfl) (by kernel_rfl) (fun _ _ _ h => h) (Or.inl ⟨by rfl, ?_⟩) (by assumption) ?_
    rotate_left
    · (intro w hSw; (try dsimp only at hSw); go_simp; try with_reducible rfl)
    try simp only [List.getElem_toArray, List.getElem_cons_zero, List.getElem_cons_succ, Act.put, List.setIfInBounds_toArray, List.set_cons_zero, List.set_cons_succ]
    refine wpAnyH_take (i := 14) (v := ?_) rfl (by kernel_rfl) (by kernel_rfl) (by kernel_rfl) (fun _ _ _ h => h) (Or.inl ⟨by rfl, ?_⟩) (by assumption) ?_
    rotate_left
    · (intro w hSw; (try dsimp only at hSw); go_simp; try with_reducible rfl)
    try simp only [List.getElem_toArray, List.getElem_cons_zero, List.getElem_cons_succ, Act.put, List.setIfInBounds_toArray, List.set_cons_zero, List.set_cons_succ]
    refine wpAnyH_take (i := 15) (v := ?_) rfl (by kernel_rfl) (by kernel_rfl) (by kernel_rfl) (fun _ _ _ h => h) (Or.inl ⟨by rfl, ?_⟩) (by assumption) ?_
    rotate_left
    · (intro w hSw; (try dsimp only at hSw); go_simp; try with_reducible rfl)
    try simp only [List.getElem_toArray, List.getElem_cons_zero, List.getElem_cons_succ, Act.put, List.setIfInBounds_toArray, List.set_cons_zero, List.set_cons_succ]
    refine wpAnyH_done (by kernel_rfl) ?_ _
    clear hHeld OXt OXt' OYt HSWt Bt1 Bt2
    have KPs' : Hid (KV W3 (.slice pas pns pcs) (pairP a b (srt (namesOf 1 rs)) (srt (namesOf 3 rs))).1) := KV.below KPs.out Bt3.out
    have KQs' : Hid (KV W3 (.slice qas qns qcs) (pairQ a b (srt (namesOf 1 rs)) (srt (namesOf 3 rs))).1) := KV.below KQs.out Bt3.out
    have hE1 := HE1.out
    have hE2 := HE2.out
    have hU := HU.out
    have stop : updS a b c d rs = none → (pairB a b (srt (namesOf 1 rs)) (srt (namesOf 3 rs)) 16777215 = false ∨ (pairB a b (srt (namesOf 1 rs)) (srt (namesOf 3 rs)) 16777215 = true ∧ pairB c d (srt (namesOf 2 rs)) (srt (namesOf 4 rs)) 65535 = false)) → Hid (updS a b c d rs = none) := fun h _ => h
    clear stop
    cases hacc : accF 16777215 (two (keptS a 1 rs) (keptS b 3 rs)) 2 with
    | none =>
      rw [hacc] at hE1 hU
      have HN : Hid (updS a b c d rs = none) := hU
      have hpb : pairB a b (srt (namesOf 1 rs)) (srt (namesOf 3 rs)) 16777215 = false := hE1
      rw [hpb]
      clear hE1 hE2 hU hacc hpb
      go_wp2_with (first
        | (refine wpList_store_row rfl 24 _ _ rfl (w.heap.size + 1) nilK nilK 24 rfl rfl HYW3.out size4k rfl (by kernel_rfl) ?_; intro W4 z1 z2 z3 z4)
        | fail)
      unfold UpdPost
      rw [HN.out]
      exact bodyPost_ret (results_keys (p := 4) (u := 5) rfl _ _ (w.heap.size + 1) nilK rfl z1 rfl) rfl ⟨BWt.out.trans (z4.mono (by omega)), rfl⟩
    | some x =>
      rw [hacc] at hE1 hU
      have hpb : pairB a b (srt (namesOf 1 rs)) (srt (namesOf 3 rs)) 16777215 = true := hE1.1
      cases hacc2 : accF 65535 (two (keptS c 2 rs) (keptS d 4 rs)) 2 with
      | none =>
        rw [hacc2] at hE2 hU
        have HN : Hid (updS a b c d rs = none) := hU
        have hpb2 : pairB c d (srt (namesOf 2 rs)) (srt (namesOf 4 rs)) 65535 = false := hE2
        rw [hpb, hpb2]
        clear hE1 hE2 hU hacc hacc2 hpb hpb2
        go_wp2_with (first
          | (refine wpList_store_row rfl 24 _ _ rfl (w.heap.size + 1) nilK nilK 24 rfl rfl HYW3.out size4k rfl (by kernel_rfl) ?_; intro W4 z1 z2 z3 z4)
          | fail)
        unfold UpdPost
        rw [HN.out]
        exact bodyPost_ret (results_keys (p := 4) (u := 5) rfl _ _ (w.heap.size + 1) nilK rfl z1 rfl) rfl ⟨BWt.out.trans (z4.mono (by omega)), rfl⟩
      | some y =>
        rw [hacc2] at hE2 hU
        have HN : Hid (updS a b c d rs = some (x.2.2 0, x.2.2 1, y.2.2 0, y.2.2 1)) := hU
        have hpb2 : pairB c d (srt (namesOf 2 rs)) (srt (namesOf 4 rs)) 65535 = true := hE2.1
        rw [hE1.2.1] at KPs'
        rw [hE1.2.2] at KQs'
        rw [hE2.2.1] at KPt
        rw [hE2.2.2] at KQt
        rw [hpb, hpb2]
        clear hE1 hE2 hU hacc hacc2 hpb hpb2
        go_wp2_with (first
          | (refine wpList_store_row rfl 24 _ _ rfl (w.heap.size + 1) nilK #[.slice pas pns pcs, .slice qas qns qcs, .slice pat pnt pct, .slice qat qnt qct] 24 rfl rfl HYW3.out size4k rfl (by kernel_rfl) ?_; intro W4 z1 z2 z3 z4)
          | fail)
        unfold UpdPost
        rw [HN.out]
        exact bodyPost_ret (results_keys (p := 4) (u := 5) rfl _ _ (w.heap.size + 1) #[.slice pas pns pcs, .slice qas qns qcs, .slice pat pnt pct, .slice qat qnt qct] rfl z1 rfl) rfl ⟨BWt.out.trans (z4.mono (by omega)), _, _, _, _, rfl, KV.store KPs'.out HYW3.out z2, KV.store KQs'.out HYW3.out z2, KV.store KPt.out HYW3.out z2, KV.store KQt.out HYW3.out z2⟩
end Go.Proofs.Ythejehbhjkmeeaa
