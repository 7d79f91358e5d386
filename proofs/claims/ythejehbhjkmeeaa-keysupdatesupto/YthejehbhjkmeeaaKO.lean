/- Update: the walk. Conditions: keys and rows can be read. -/
import Derived.Test.YthejehbhjkmeeaaKN
namespace Go.Proofs.Ythejehbhjkmeeaa
open Go.RowKit
set_option linter.unusedSimpArgs false in
set_option maxRecDepth 20000 in
set_option maxHeartbeats 8000000 in
theorem update_any (v1 v2 v3 v4 : Value) (a b c d : List Ky) (a2 : Option Addr) (n2 c2 : Nat) (rs : List Rw) (w : World) (h1 : KV w v1 a) (h2 : KV w v2 b) (h3 : KV w v3 c) (h4 : KV w v4 d) (hR : RS w a2 n2 rs) :
    Calls Try.prog 10 #[.agg #[v1, v2, v3, v4], .slice a2 n2 c2] w fun e w' => UpdPost w (updS a b c d rs) e w' := by
  have HKA := keptS_ok a 1 hR
  have HKB := keptS_ok b 3 hR
  have HKC := keptS_ok c 2 hR
  have HKD := keptS_ok d 4 hR
  have HA : Hid _ := HKA
  have HB : Hid _ := HKB
  have HC : Hid _ := HKC
  have HD : Hid _ := HKD
  have HR : Hid _ := hR
  obtain ⟨a1, n1, c1, rfl, l1, k1⟩ := h1
  obtain ⟨a3, n3, c3, rfl, l3, k3⟩ := h2
  obtain ⟨a4, n4, c4, rfl, l4, k4⟩ := h3
  obtain ⟨a5, n5, c5, rfl, l5, k5⟩ := h4
  have H1 : Hid _ := k1
  have H2 : Hid _ := k3
  have H3 : Hid _ := k4
  have H4 : Hid _ := k5
  have HCH : Hid (∀ W, Below w.heap.size w W → Calls Try.prog 8 #[.agg #[.slice a1 n1 c1, .slice a3 n3 c3, .slice a4 n4 c4, .slice a5 n5 c5]] W fun e w' => e = .returned (.int .i64 (chkE a b c d)) ∧ Below W.heap.size W w') := fun W hW =>
    check_any _ _ _ _ a b c d W ⟨a1, n1, c1, rfl, l1, k1.below hW⟩ ⟨a3, n3, c3, rfl, l3, k3.below hW⟩ ⟨a4, n4, c4, rfl, l4, k4.below hW⟩ ⟨a5, n5, c5, rfl, l5, k5.below hW⟩
  have HBX : Hid _ := two_first w (.cells #[.slice a1 n1 c1, .slice a3 n3 c3, .slice a4 n4 c4, .slice a5 n5 c5] 24) (.cells nilK 24)
  clear HKA HKB HKC HKD hR l1 k1 l3 k3 l4 k4 l5 k5
  go_enter Try.func10, Try.ntmps10
  go_wp2_with (first
    | refine wpList_load_row rfl 24 _ rfl w.heap.size rfl 24 #[.slice a1 n1 c1, .slice a3 n3 c3, .slice a4 n4 c4, .slice a5 n5 c5] (0, 0) _ HBX.out Try.underlying24 rfl size4k ?_
    | fail)
  refine (HCH.out _ (below2 _ _ _)).mono ?_
  rintro e W1 ⟨rfl, hb1⟩
  have HW1 : Hid (Below w.heap.size w W1) := (below2 _ _ _).trans (hb1.mono (by simp; omega))
  have HX1 : Hid (W1.heap[w.heap.size]? = some (.cells #[.slice a1 n1 c1, .slice a3 n3 c3, .slice a4 n4 c4, .slice a5 n5 c5] 24 (0, 0))) := (hb1.block _ (by simp; omega)).trans HBX.out
  have HX2 : Hid (W1.heap[w.heap.size + 1]? = some (.cells nilK 24 (0, 0))) := (hb1.block _ (by simp)).trans (two_last _ _ _)
  clear hb1 HCH
  by_cases hch : chkE a b c d = 0
  rotate_left
  · have hc190 : chkE a b c d = 190 := by
      unfold chkE at hch ⊢
      cases hq : (rightB 16777215 a b && rightB 65535 c d)
      · rfl
      · rw [hq] at hch; exact absurd rfl hch
    have HN : Hid (updS a b c d rs = none) := by show _ = _; unfold updS; rw [if_neg hch]
    rw [hc190]
    clear hch hc190
    go_wp2_with (first
      | (refine wpList_store_row rfl 24 _ _ rfl (w.heap.size + 1) nilK nilK 24 rfl rfl HX2.out size4k rfl (by kernel_rfl) ?_; intro W2 z1 z2 z3 z4)
      | fail)
    unfold UpdPost
    rw [HN.out]
    exact bodyPost_ret (results_keys (p := 4) (u := 5) rfl _ _ (w.heap.size + 1) nilK rfl z1 rfl) rfl ⟨HW1.out.trans (z4.mono (by omega)), rfl⟩
  · have HU : Hid (updS a b c d rs = (accF 16777215 (two (keptS a 1 rs) (keptS b 3 rs)) 2).bind fun x => (accF 65535 (two (keptS c 2 rs) (keptS d 4 rs)) 2).map fun y => (x.2.2 0, x.2.2 1, y.2.2 0, y.2.2 1)) := by show _ = _; unfold updS; rw [if_pos hch]
    rw [hch]
    clear hch
    obtain ⟨KA, hKA⟩ : ∃ KA, keptS a 1 rs = KA := ⟨_, rfl⟩
    obtain ⟨KB, hKB⟩ : ∃ KB, keptS b 3 rs = KB := ⟨_, rfl⟩
    obtain ⟨KC, hKC⟩ : ∃ KC, keptS c 2 rs = KC := ⟨_, rfl⟩
    obtain ⟨KD, hKD⟩ : ∃ KD, keptS d 4 rs = KD := ⟨_, rfl⟩
    have HC1 : Hid (∀ W, Below w.heap.size w W → Calls Try.prog 19 #[.slice a1 n1 c1, .slice a2 n2 c2, .int .i64 1] W fun e w' => ∃ v, e = .returned v ∧ w'.ownsRow W.heap.size 37 2 v KA.length (rowK KA) ∧ Below W.heap.size W w') := fun W hW => by rw [← hKA]; exact kept_any _ _ _ a _ _ _ rs 1 W (H1.out.below hW) (HR.out.below hW)
    have HC2 : Hid (∀ W, Below w.heap.size w W → Calls Try.prog 19 #[.slice a3 n3 c3, .slice a2 n2 c2, .int .i64 3] W fun e w' => ∃ v, e = .returned v ∧ w'.ownsRow W.heap.size 37 2 v KB.length (rowK KB) ∧ Below W.heap.size W w') := fun W hW => by rw [← hKB]; exact kept_any _ _ _ b _ _ _ rs 3 W (H2.out.below hW) (HR.out.below hW)
    have HC3 : Hid (∀ W, Below w.heap.size w W → Calls Try.prog 19 #[.slice a4 n4 c4, .slice a2 n2 c2, .int .i64 2] W fun e w' => ∃ v, e = .returned v ∧ w'.ownsRow W.heap.size 37 2 v KC.length (rowK KC) ∧ Below W.heap.size W w') := fun W hW => by rw [← hKC]; exact kept_any _ _ _ c _ _ _ rs 2 W (H3.out.below hW) (HR.out.below hW)
    have HC4 : Hid (∀ W, Below w.heap.size w W → Calls Try.prog 19 #[.slice a5 n5 c5, .slice a2 n2 c2, .int .i64 4] W fun e w' => ∃ v, e = .returned v ∧ w'.ownsRow W.heap.size 37 2 v KD.length (rowK KD) ∧ Below W.heap.size W w') := fun W hW => by rw [← hKD]; exact kept_any _ _ _ d _ _ _ rs 4 W (H4.out.below hW) (HR.out.below hW)
    rw [hKA, hKB, hKC, hKD] at HU
    rw [hKA] at HA
    rw [hKB] at HB
    rw [hKC] at HC
    rw [hKD] at HD
    clear hKA hKB hKC hKD
    have HSW : Hid (∀ V, Below W1.heap.size W1 V → V.cell? ⟨w.heap.size, 0, none⟩ = some (.slice a1 n1 c1) ∧ V.cell? ⟨w.heap.size, 1, none⟩ = some (.slice a3 n3 c3) ∧ V.cell? ⟨w.heap.size, 2, none⟩ = some (.slice a4 n4 c4) ∧ V.cell? ⟨w.heap.size, 3, none⟩ = some (.slice a5 n5 c5)) := fun V hV => by
      have := (hV.block _ (lt_of_heap HX1.out)).trans HX1.out
      exact ⟨cell_row this 0, cell_row this 1, cell_row this 2, cell_row this 3⟩
    go_wp2_with fail
    rename_i Q3 K3 hK3
    have REST : Hid (∀ (p6 : Nat) (Wz : World) (e0 e1 e2 e3 : Option Addr) (f0 f1 f2 f3 : Nat), Made W1 Wz [(.slice e0 KA.length f0, KA), (.slice e1 KB.length f1, KB), (.slice e2 KC.length f2, KC), (.slice e3 KD.length f3, KD)] → Wz.heap[p6]? = some (.cells #[.slice e0 KA.length f0, .slice e1 KB.length f1, .slice e2 KC.length f2, .slice e3 KD.length f3] 24 (0, 0)) → K3 { tmps := #[.agg #[.slice a1 n1 c1, .slice a3 n3 c3, .slice a4 n4 c4, .slice a5 n5 c5], .slice a2 n2 c2, .pointer (some ⟨w.heap.size, 0, none⟩), undef, .pointer (some ⟨w.heap.size + 1, 0, none⟩), .int .i64 0, .pointer (some ⟨p6, 0, none⟩), .agg #[.slice a1 n1 c1, .slice a3 n3 c3, .slice a4 n4 c4, .slice a5 n5 c5], .int .i64 0, .bool false, undef, .pointer (some ⟨w.heap.size, 0, none⟩), .slice a1 n1 c1, .slice a2 n2 c2, .slice e0 KA.length f0, .pointer (some ⟨w.heap.size, 1, none⟩), .slice a3 n3 c3, .slice a2 n2 c2, .slice e1 KB.length f1, .pointer (some ⟨w.heap.size, 2, none⟩), .slice a4 n4 c4, .slice a2 n2 c2, .slice e2 KC.length f2, .pointer (some ⟨w.heap.size, 3, none⟩), .slice a5 n5 c5, .slice a2 n2 c2, .slice e3 KD.length f3, .agg #[.slice e0 KA.length f0, .slice e1 KB.length f1, .slice e2 KC.length f2, .slice e3 KD.length f3], undef, undef, undef, undef, undef, undef, undef, undef, undef, undef, undef, undef, undef, undef, undef, undef, undef, undef], defers := [] } Wz) := by
      show ∀ (p6 : Nat) (Wz : World) (e0 e1 e2 e3 : Option Addr) (f0 f1 f2 f3 : Nat), _
      intro p6 Wz e0 e1 e2 e3 f0 f1 f2 f3 hMZ hPZ
      have HMZ : Hid _ := hMZ
      have HPZ : Hid _ := hPZ
      clear hMZ hPZ
      refine hK3 _ _ ?_
      have HF4 : Hid (F4 W1.heap.size Wz (.slice e0 KA.length f0) (.slice e1 KB.length f1) (.slice e2 KC.length f2) (.slice e3 KD.length f3) KA.length KB.length KC.length KD.length KA KB KC KD) := HMZ.out.four
      have HBZ : Hid _ := HMZ.out.bel
      clear HMZ
      have g0 : Wz.cell? ⟨p6, 0, none⟩ = some (.slice e0 KA.length f0) := cell_row HPZ.out 0
      have g1 : Wz.cell? ⟨p6, 1, none⟩ = some (.slice e1 KB.length f1) := cell_row HPZ.out 1
      have HR2 : Hid (Wz.heap[w.heap.size + 1]? = some (.cells nilK 24 (0, 0))) := (HBZ.out.block _ (lt_of_heap HX2.out)).trans HX2.out
      go_wp2_with fail
      refine (number_any 16777215 W1.heap.size Wz.heap.size (two2 (.slice e0 KA.length f0) (.slice e1 KB.length f1)) (twoN KA.length KB.length) (two KA KB) _ (own2_of (heap_alloc_new _ _) (own_below HF4.out.o1 (below1 _ _)) (own_below HF4.out.o2 (below1 _ _)) HF4.out.p12) (fun j hj => by
        match j, hj with
        | 0, _ => exact ⟨rfl, Nat.le_trans HA.out.1 (by omega), HA.out.2⟩
        | 1, _ => exact ⟨rfl, Nat.le_trans HB.out.1 (by omega), HB.out.2⟩) (by omega)).mono ?_
      rintro e Wn hpost
      unfold NumPost at hpost
      obtain ⟨rfl, hfr, hown⟩ := hpost
      have HF5 := HF4.out.keep (below1 Wz (.cells #[.slice e0 KA.length f0, .slice e1 KB.length f1] 22))
      have hn2 := HF5.not (p := w.heap.size + 1) ((heap_alloc_old _ _ (lt_of_heap HR2.out)).trans HR2.out) (by decide)
      have hn6 := HF5.not (p := p6) ((heap_alloc_old _ _ (lt_of_heap HPZ.out)).trans HPZ.out) (by decide)
      have HR3 : Hid (Wn.heap[w.heap.size + 1]? = some (.cells nilK 24 (0, 0))) := (hfr.block _ (by have := lt_of_heap HR2.out; simp; omega) hn2.1).trans ((heap_alloc_old _ _ (lt_of_heap HR2.out)).trans HR2.out)
      have HP3 : Hid (Wn.heap[p6]? = some (.cells #[.slice e0 KA.length f0, .slice e1 KB.length f1, .slice e2 KC.length f2, .slice e3 KD.length f3] 24 (0, 0))) := (hfr.block _ (by have := lt_of_heap HPZ.out; simp; omega) hn6.1).trans ((heap_alloc_old _ _ (lt_of_heap HPZ.out)).trans HPZ.out)
      have HBN : Hid (Below W1.heap.size W1 Wn) := hfr.to (HBZ.out.trans ((below1 _ _).mono HBZ.out.size)) HF5.low.1
      cases hacc : accF 16777215 (two KA KB) 2 with
      | none =>
        have HN : Hid (updS a b c d rs = none) := by show _ = _; rw [HU.out, hacc]; rfl
        clear hfr hown HF5 hn2 hn6 g0 g1
        rw [Option.isSome_none]
        go_wp2_with (first
          | (refine wpList_store_row rfl 24 _ _ rfl (w.heap.size + 1) nilK nilK 24 rfl rfl HR3.out size4k rfl (by kernel_rfl) ?_; intro W2 y1 y2 y3 y4)
          | fail)
        unfold UpdPost
        rw [HN.out]
        exact bodyPost_ret (results_keys (p := 4) (u := 5) rfl _ _ (w.heap.size + 1) nilK rfl y1 rfl) rfl ⟨(HW1.out.trans (HBN.out.mono HW1.out.size)).trans (y4.mono (by omega)), rfl⟩
      | some x =>
        have HF6 : Hid (F4 W1.heap.size Wn (.slice e0 KA.length f0) (.slice e1 KB.length f1) (.slice e2 KC.length f2) (.slice e3 KD.length f3) KA.length KB.length KC.length KD.length (x.2.2 0) (x.2.2 1) KC KD) := HF5.first hfr (hown x hacc)
        have HNM : Hid _ := accF_names hacc
        have HU2 : Hid (updS a b c d rs = (accF 65535 (two KC KD) 2).map fun y => (x.2.2 0, x.2.2 1, y.2.2 0, y.2.2 1)) := by show _ = _; rw [HU.out, hacc]; rfl
        clear hfr hown HF5 hn2 hn6 g0 g1 hacc
        have g2 : Wn.cell? ⟨p6, 2, none⟩ = some (.slice e2 KC.length f2) := cell_row HP3.out 2
        have g3 : Wn.cell? ⟨p6, 3, none⟩ = some (.slice e3 KD.length f3) := cell_row HP3.out 3
        rw [Option.isSome_some]
        go_wp2_with fail
        refine (number_any 65535 W1.heap.size Wn.heap.size (two2 (.slice e2 KC.length f2) (.slice e3 KD.length f3)) (twoN KC.length KD.length) (two KC KD) _ (own2_of (heap_alloc_new _ _) (own_below HF6.out.o3 (below1 _ _)) (own_below HF6.out.o4 (below1 _ _)) HF6.out.p34) (fun j hj => by
          match j, hj with
          | 0, _ => exact ⟨rfl, Nat.le_trans HC.out.1 (by omega), HC.out.2⟩
          | 1, _ => exact ⟨rfl, Nat.le_trans HD.out.1 (by omega), HD.out.2⟩) (by omega)).mono ?_
        rintro e Wm hpost
        unfold NumPost at hpost
        obtain ⟨rfl, hfr, hown⟩ := hpost
        have HF5 := HF6.out.keep (below1 Wn (.cells #[.slice e2 KC.length f2, .slice e3 KD.length f3] 22))
        have hn2 := HF5.not (p := w.heap.size + 1) ((heap_alloc_old _ _ (lt_of_heap HR3.out)).trans HR3.out) (by decide)
        have hn6 := HF5.not (p := p6) ((heap_alloc_old _ _ (lt_of_heap HP3.out)).trans HP3.out) (by decide)
        have HR4 : Hid (Wm.heap[w.heap.size + 1]? = some (.cells nilK 24 (0, 0))) := (hfr.block _ (by have := lt_of_heap HR3.out; simp; omega) hn2.2).trans ((heap_alloc_old _ _ (lt_of_heap HR3.out)).trans HR3.out)
        have HP4 : Hid (Wm.heap[p6]? = some (.cells #[.slice e0 KA.length f0, .slice e1 KB.length f1, .slice e2 KC.length f2, .slice e3 KD.length f3] 24 (0, 0))) := (hfr.block _ (by have := lt_of_heap HP3.out; simp; omega) hn6.2).trans ((heap_alloc_old _ _ (lt_of_heap HP3.out)).trans HP3.out)
        have HBM : Hid (Below W1.heap.size W1 Wm) := hfr.to (HBN.out.trans ((below1 _ _).mono HBN.out.size)) HF5.low.2
        cases hacc : accF 65535 (two KC KD) 2 with
        | none =>
          have HN : Hid (updS a b c d rs = none) := by show _ = _; rw [HU2.out, hacc]; rfl
          clear hfr hown HF5 hn2 hn6 g2 g3
          rw [Option.isSome_none]
          go_wp2_with (first
            | (refine wpList_store_row rfl 24 _ _ rfl (w.heap.size + 1) nilK nilK 24 rfl rfl HR4.out size4k rfl (by kernel_rfl) ?_; intro W2 y1 y2 y3 y4)
            | fail)
          unfold UpdPost
          rw [HN.out]
          exact bodyPost_ret (results_keys (p := 4) (u := 5) rfl _ _ (w.heap.size + 1) nilK rfl y1 rfl) rfl ⟨(HW1.out.trans (HBM.out.mono HW1.out.size)).trans (y4.mono (by omega)), rfl⟩
        | some y =>
          have HF7 : Hid (F4 W1.heap.size Wm (.slice e0 KA.length f0) (.slice e1 KB.length f1) (.slice e2 KC.length f2) (.slice e3 KD.length f3) KA.length KB.length KC.length KD.length (x.2.2 0) (x.2.2 1) (y.2.2 0) (y.2.2 1)) := HF5.second hfr (hown y hacc)
          have HNN : Hid _ := accF_names hacc
          have HN : Hid (updS a b c d rs = some (x.2.2 0, x.2.2 1, y.2.2 0, y.2.2 1)) := by show _ = _; rw [HU2.out, hacc]; rfl
          clear hfr hown HF5 hn2 hn6 g2 g3 hacc
          rw [Option.isSome_some]
          go_wp2_with (first
            | refine wpList_load_row rfl 24 _ rfl (p6) rfl 24 #[.slice e0 KA.length f0, .slice e1 KB.length f1, .slice e2 KC.length f2, .slice e3 KD.length f3] (0, 0) _ HP4.out Try.underlying24 rfl size4k ?_
            | (refine wpList_store_row rfl 24 _ _ rfl (w.heap.size + 1) nilK #[.slice e0 KA.length f0, .slice e1 KB.length f1, .slice e2 KC.length f2, .slice e3 KD.length f3] 24 rfl rfl HR4.out size4k rfl (by kernel_rfl) ?_; intro W2 y1 y2 y3 y4)
            | fail)
          have h8 := HF7.out.set (W' := W2) ⟨y4, fun k _ hne => y2 k hne⟩ (HF7.out.not HR4.out (by decide))
          unfold UpdPost
          rw [HN.out]
          exact bodyPost_ret (results_keys (p := 4) (u := 5) rfl _ _ (w.heap.size + 1) #[.slice e0 KA.length f0, .slice e1 KB.length f1, .slice e2 KC.length f2, .slice e3 KD.length f3] rfl y1 rfl) rfl ⟨(HW1.out.trans (HBM.out.mono HW1.out.size)).trans (y4.mono (by omega)), _, _, _, _, rfl, kv_names h8.o1 HNM.out.1 (Nat.le_trans HA.out.1 (by omega)) HA.out.2, kv_names h8.o2 HNM.out.2 (Nat.le_trans HB.out.1 (by omega)) HB.out.2, kv_names h8.o3 HNN.out.1 (Nat.le_trans HC.out.1 (by omega)) HC.out.2, kv_names h8.o4 HNN.out.2 (Nat.le_trans HD.out.1 (by omega)) HD.out.2⟩
    refine wp_region_held_drew (S := (fun V => V.cell? ⟨w.heap.size, 0, none⟩ = some (.slice a1 n1 c1) ∧ V.cell? ⟨w.heap.size, 1, none⟩ = some (.slice a3 n3 c3) ∧ V.cell? ⟨w.heap.size, 2, none⟩ = some (.slice a4 n4 c4) ∧ V.cell? ⟨w.heap.size, 3, none⟩ = some (.slice a5 n5 c5))) (by kernel_rfl) ?_ (fun hHeld => ?_)
    · exact HSW.out _ (Below.refl _ _).drew
    have HMD : Hid (Made W1 W1.drew []) := (Made.start W1).more (Below.refl _ _).drew
    refine wpAnyH_take (i := 0) (v := ?_) rfl (by kernel_rfl) (by kernel_rfl) (by kernel_rfl) (fun _ _ _ h => h) (Or.inl ⟨by rfl, ?_⟩) (by assumption) ?_
    rotate_left
    · (intro w hSw; (try dsimp only at hSw); go_simp; try with_reducible rfl)
    try simp only [List.getElem_toArray, List.getElem_cons_zero, List.getElem_cons_succ, Act.put, List.setIfInBounds_toArray, List.set_cons_zero, List.set_cons_succ]
    refine wpAnyH_take (i := 1) (v := ?_) rfl (by kernel_rfl) (by kernel_rfl) (by kernel_rfl) (fun _ _ _ h => h) (Or.inl ⟨by rfl, ?_⟩) (by assumption) ?_
    rotate_left
    · (intro w hSw; (try dsimp only at hSw); go_simp; try with_reducible rfl)
    try simp only [List.getElem_toArray, List.getElem_cons_zero, List.getElem_cons_succ, Act.put, List.setIfInBounds_toArray, List.set_cons_zero, List.set_cons_succ]
    refine wpAnyH_take (i := 2) (v := ?_) rfl (by kernel_rfl) (by kernel_rfl) (by kernel_rfl) (fun _ _ _ h => h) (Or.inl ⟨by rfl, ?_⟩) (by assumption) ?_
    rotate_left
    · (intro w hSw; (try dsimp only at hSw); go_simp; try with_reducible rfl)
    try simp only [List.getElem_toArray, List.getElem_cons_zero, List.getElem_cons_succ, Act.put, List.setIfInBounds_toArray, List.set_cons_zero, List.set_cons_succ]
    refine wpAnyH_take (i := 4) (v := ?_) rfl (by kernel_rfl) (by kernel_rfl) (by kernel_rfl) (fun _ _ _ h => h) (Or.inl ⟨by rfl, ?_⟩) (by assumption) ?_
    rotate_left
    · (intro w hSw; (try dsimp only at hSw); go_simp; try with_reducible rfl)
    try simp only [List.getElem_toArray, List.getElem_cons_zero, List.getElem_cons_succ, Act.put, List.setIfInBounds_toArray, List.set_cons_zero, List.set_cons_succ]
    refine wpAnyH_take (i := 5) (v := ?_) rfl (by kernel_rfl) (by kernel_rfl) (by kernel_rfl) (fun _ _ _ h => h) (Or.inl ⟨by rfl, ?_⟩) (by assumption) ?_
    rotate_left
    · (intro w hSw; (try dsimp only at hSw); go_simp; try with_reducible rfl)
    try simp only [List.getElem_toArray, List.getElem_cons_zero, List.getElem_cons_succ, Act.put, List.setIfInBounds_toArray, List.set_cons_zero, List.set_cons_succ]
    refine wpAnyH_take (i := 6) (v := ?_) rfl (by kernel_rfl) (by kernel_rfl) (by kernel_rfl) (fun _ _ _ h => h) (Or.inl ⟨by rfl, ?_⟩) (by assumption) ?_
    rotate_left
    · (intro w hSw; (try dsimp only at hSw); go_simp; try with_reducible rfl)
    try simp only [List.getElem_toArray, List.getElem_cons_zero, List.getElem_cons_succ, Act.put, List.setIfInBounds_toArray, List.set_cons_zero, List.set_cons_succ]
    refine wpAnyH_take (i := 8) (v := ?_) rfl (by kernel_rfl) (by kernel_rfl) (by kernel_rfl) (fun _ _ _ h => h) (Or.inl ⟨by rfl, ?_⟩) (by assumption) ?_
    rotate_left
    · (intro w hSw; (try dsimp only at hSw); go_simp; try with_reducible rfl)
    try simp only [List.getElem_toArray, List.getElem_cons_zero, List.getElem_cons_succ, Act.put, List.setIfInBounds_toArray, List.set_cons_zero, List.set_cons_succ]
    refine wpAnyH_take (i := 9) (v := ?_) rfl (by kernel_rfl) (by kernel_rfl) (by kernel_rfl) (fun _ _ _ h => h) (Or.inl ⟨by rfl, ?_⟩) (by assumption) ?_
    rotate_left
    · (intro w hSw; (try dsimp only at hSw); go_simp; try with_reducible rfl)
    try simp only [List.getElem_toArray, List.getElem_cons_zero, List.getElem_cons_succ, Act.put, List.setIfInBounds_toArray, List.set_cons_zero, List.set_cons_succ]
    refine wpAnyH_take (i := 10) (v := ?_) rfl (by kernel_rfl) (by kernel_rfl) (by kernel_rfl) (fun _ _ _ h => h) (Or.inl ⟨by rfl, ?_⟩) (by assumption) ?_
    rotate_left
    · (intro w hSw; (try dsimp only at hSw); go_simp; try with_reducible rfl)
    try simp only [List.getElem_toArray, List.getElem_cons_zero, List.getElem_cons_succ, Act.put, List.setIfInBounds_toArray, List.set_cons_zero, List.set_cons_succ]
    refine wpAnyH_take (i := 12) (v := ?_) rfl (by kernel_rfl) (by kernel_rfl) (by kernel_rfl) (fun _ _ _ h => h) (Or.inl ⟨by rfl, ?_⟩) (by assumption) ?_
    rotate_left
    · (intro w hSw; (try dsimp only at hSw); go_simp; try with_reducible rfl)
    try simp only [List.getElem_toArray, List.getElem_cons_zero, List.getElem_cons_succ, Act.put, List.setIfInBounds_toArray, List.set_cons_zero, List.set_cons_succ]
    refine wpAnyH_take (i := 13) (v := ?_) rfl (by kernel_rfl) (by kernel_rfl) (by kernel_rfl) (fun _ _ _ h => h) (Or.inl ⟨by rfl, ?_⟩) (by assumption) ?_
    rotate_left
    · (intro w hSw; (try dsimp only at hSw); go_simp; try with_reducible rfl)
    try simp only [List.getElem_toArray, List.getElem_cons_zero, List.getElem_cons_succ, Act.put, List.setIfInBounds_toArray, List.set_cons_zero, List.set_cons_succ]
    refine wpAnyH_take (i := 14) (v := ?_) rfl (by kernel_rfl) (by kernel_rfl) (by kernel_rfl) (fun _ _ _ h => h) (Or.inl ⟨by rfl, ?_⟩) (by assumption) ?_
    rotate_left
    · (intro w hSw; (try dsimp only at hSw); go_simp; try with_reducible rfl)
    try simp only [List.getElem_toArray, List.getElem_cons_zero, List.getElem_cons_succ, Act.put, List.setIfInBounds_toArray, List.set_cons_zero, List.set_cons_succ]
    refine wpAnyH_ready (rs := [3, 17]) (by kernel_rfl) (by simp) ?_
    refine AllReadyH.cons (o := _) rfl (fun K hK => ?_) (AllReadyH.cons (o := _) rfl (fun K hK => ?_) AllReadyH.nil)
    · skip
      go_simp
      refine (HC1.out _ (HW1.out.trans (HMD.out.bel.mono HW1.out.size))).mono ?_
      rintro e V0 ⟨v9, rfl, ho9, hb9⟩
      obtain ⟨e0, f0, rfl, _⟩ := own_form3 ho9
      have HMD2 : Hid _ := HMD.out.push ho9 hb9
      clear ho9 hb9 HMD
      have HMD := HMD2
      clear HMD2
      go_wp2_with fail
      refine hK.out _ _ (HSW.out _ HMD.out.bel) (fun hHeld2 => ?_)
      clear hK K hHeld
      have hHeld := hHeld2
      clear hHeld2
      try simp only [List.getElem_toArray, List.getElem_cons_zero, List.getElem_cons_succ, Act.put, List.setIfInBounds_toArray, List.set_cons_zero, List.set_cons_succ]
      refine wpAnyH_ready (rs := [7, 17]) (by kernel_rfl) (by simp) ?_
      refine AllReadyH.cons (o := _) rfl (fun K hK => ?_) (AllReadyH.cons (o := _) rfl (fun K hK => ?_) AllReadyH.nil)
      · skip
        go_simp
        refine (HC2.out _ (HW1.out.trans (HMD.out.bel.mono HW1.out.size))).mono ?_
        rintro e V1 ⟨v9, rfl, ho9, hb9⟩
        obtain ⟨e1, f1, rfl, _⟩ := own_form3 ho9
        have HMD2 : Hid _ := HMD.out.push ho9 hb9
        clear ho9 hb9 HMD
        have HMD := HMD2
        clear HMD2
        go_wp2_with fail
        refine hK.out _ _ (HSW.out _ HMD.out.bel) (fun hHeld2 => ?_)
        clear hK K hHeld
        have hHeld := hHeld2
        clear hHeld2
        try simp only [List.getElem_toArray, List.getElem_cons_zero, List.getElem_cons_succ, Act.put, List.setIfInBounds_toArray, List.set_cons_zero, List.set_cons_succ]
        refine wpAnyH_ready (rs := [11, 17]) (by kernel_rfl) (by simp) ?_
        refine AllReadyH.cons (o := _) rfl (fun K hK => ?_) (AllReadyH.cons (o := _) rfl (fun K hK => ?_) AllReadyH.nil)
        · skip
          go_simp
          refine (HC3.out _ (HW1.out.trans (HMD.out.bel.mono HW1.out.size))).mono ?_
          rintro e V2 ⟨v9, rfl, ho9, hb9⟩
          obtain ⟨e2, f2, rfl, _⟩ := own_form3 ho9
          have HMD2 : Hid _ := HMD.out.push ho9 hb9
          clear ho9 hb9 HMD
          have HMD := HMD2
          clear HMD2
          go_wp2_with fail
          refine hK.out _ _ (HSW.out _ HMD.out.bel) (fun hHeld2 => ?_)
          clear hK K hHeld
          have hHeld := hHeld2
          clear hHeld2
          try simp only [List.getElem_toArray, List.getElem_cons_zero, List.getElem_cons_succ, Act.put, List.setIfInBounds_toArray, List.set_cons_zero, List.set_cons_succ]
          refine wpAnyH_ready (rs := [15, 17]) (by kernel_rfl) (by simp) ?_
          refine AllReadyH.cons (o := _) rfl (fun K hK => ?_) (AllReadyH.cons (o := _) rfl (fun K hK => ?_) AllReadyH.nil)
          · skip
            go_simp
            refine (HC4.out _ (HW1.out.trans (HMD.out.bel.mono HW1.out.size))).mono ?_
            rintro e V3 ⟨v9, rfl, ho9, hb9⟩
            obtain ⟨e3, f3, rfl, _⟩ := own_form3 ho9
            have HMD2 : Hid _ := HMD.out.push ho9 hb9
            clear ho9 hb9 HMD
            have HMD := HMD2
            clear HMD2
            go_wp2_with fail
            refine hK.out _ _ (HSW.out _ HMD.out.bel) (fun hHeld2 => ?_)
            clear hK K hHeld
            have hHeld := hHeld2
            clear hHeld2
            try simp only [List.getElem_toArray, List.getElem_cons_zero, List.getElem_cons_succ, Act.put, List.setIfInBounds_toArray, List.set_cons_zero, List.set_cons_succ]
            refine wpAnyH_take (i := 16) (v := ?_) rfl (by kernel_rfl) (by kernel_rfl) (by kernel_rfl) (fun _ _ _ h => h) (Or.inl ⟨by rfl, ?_⟩) (by assumption) ?_
            rotate_left
            · (intro w hSw; (try dsimp only at hSw); go_simp; try with_reducible rfl)
            try simp only [List.getElem_toArray, List.getElem_cons_zero, List.getElem_cons_succ, Act.put, List.setIfInBounds_toArray, List.set_cons_zero, List.set_cons_succ]
            refine wpAnyH_ready (rs := [17]) (by kernel_rfl) (by simp) ?_
            refine AllReadyH.cons (o := _) rfl (fun K hK => ?_) AllReadyH.nil
            go_simp
            have HMD2 : Hid (Made W1 (V3.alloc (.cells #[.slice none 0 0, .slice none 0 0, .slice none 0 0, .slice none 0 0] 24)) [(.slice e0 KA.length f0, KA), (.slice e1 KB.length f1, KB), (.slice e2 KC.length f2, KC), (.slice e3 KD.length f3, KD)]) := HMD.out.more (below1 _ _)
            have HP6 : Hid ((V3.alloc (.cells #[.slice none 0 0, .slice none 0 0, .slice none 0 0, .slice none 0 0] 24)).heap[V3.heap.size]? = some (.cells nilK 24 (0, 0))) := heap_alloc_new _ _
            have HP7 : Hid (W1.heap.size ≤ V3.heap.size) := HMD.out.bel.size
            refine hK.out _ _ (HSW.out _ HMD2.out.bel) (fun hHeld2 => ?_)
            clear hK K hHeld HMD
            have hHeld := hHeld2
            clear hHeld2
            try simp only [List.getElem_toArray, List.getElem_cons_zero, List.getElem_cons_succ, Act.put, List.setIfInBounds_toArray, List.set_cons_zero, List.set_cons_succ]
            have HMD := HMD2
            clear HMD2
            refine wpAnyH_ready (rs := [18]) (by kernel_rfl) (by simp) ?_
            refine AllReadyH.cons (o := _) rfl (fun K hK => ?_) AllReadyH.nil
            refine wp_store_row 24 _ _ rfl (V3.heap.size) nilK #[.slice e0 KA.length f0, .slice e1 KB.length f1, .slice e2 KC.length f2, .slice e3 KD.length f3] 24 rfl rfl HP6.out size4k rfl (by kernel_rfl) ?_
            intro Wz z1 z2 z3 z4
            have HMZ : Hid (Made W1 Wz [(.slice e0 KA.length f0, KA), (.slice e1 KB.length f1, KB), (.slice e2 KC.length f2, KC), (.slice e3 KD.length f3, KD)]) := HMD.out.store HP6.out (by decide) ⟨z4, fun k _ hne => z2 k hne⟩ HP7.out
            have HPZ : Hid _ := z1
            refine hK.out _ _ (HSW.out _ HMZ.out.bel) (fun hHeld2 => ?_)
            clear hK K hHeld hHeld2 HMD HP6 z1 z2 z3 z4
            try simp only [List.getElem_toArray, List.getElem_cons_zero, List.getElem_cons_succ, Act.put, List.setIfInBounds_toArray, List.set_cons_zero, List.set_cons_succ]
            refine wpAnyH_done (by kernel_rfl) ?_ _
            exact REST.out _ _ _ _ _ _ _ _ _ _ HMZ.out HPZ.out
          · skip
            go_simp
            have HMD2 : Hid (Made W1 (V2.alloc (.cells #[.slice none 0 0, .slice none 0 0, .slice none 0 0, .slice none 0 0] 24)) [(.slice e0 KA.length f0, KA), (.slice e1 KB.length f1, KB), (.slice e2 KC.length f2, KC)]) := HMD.out.more (below1 _ _)
            have HP6 : Hid ((V2.alloc (.cells #[.slice none 0 0, .slice none 0 0, .slice none 0 0, .slice none 0 0] 24)).heap[V2.heap.size]? = some (.cells nilK 24 (0, 0))) := heap_alloc_new _ _
            have HP7 : Hid (W1.heap.size ≤ V2.heap.size) := HMD.out.bel.size
            refine hK.out _ _ (HSW.out _ HMD2.out.bel) (fun hHeld2 => ?_)
            clear hK K hHeld HMD
            have hHeld := hHeld2
            clear hHeld2
            try simp only [List.getElem_toArray, List.getElem_cons_zero, List.getElem_cons_succ, Act.put, List.setIfInBounds_toArray, List.set_cons_zero, List.set_cons_succ]
            have HMD := HMD2
            clear HMD2
            refine wpAnyH_ready (rs := [15]) (by kernel_rfl) (by simp) ?_
            refine AllReadyH.cons (o := _) rfl (fun K hK => ?_) AllReadyH.nil
            go_simp
            refine (HC4.out _ (HW1.out.trans (HMD.out.bel.mono HW1.out.size))).mono ?_
            rintro e V3 ⟨v9, rfl, ho9, hb9⟩
            obtain ⟨e3, f3, rfl, _⟩ := own_form3 ho9
            have HMD2 : Hid _ := HMD.out.push ho9 hb9
            have HP6' : Hid (V3.heap[V2.heap.size]? = some (.cells nilK 24 (0, 0))) := (hb9.block _ (lt_of_heap HP6.out)).trans HP6.out
            clear ho9 hb9 HMD HP6
            have HMD := HMD2
            clear HMD2
            have HP6 := HP6'
            clear HP6'
            go_wp2_with fail
            refine hK.out _ _ (HSW.out _ HMD.out.bel) (fun hHeld2 => ?_)
            clear hK K hHeld
            have hHeld := hHeld2
            clear hHeld2
            try simp only [List.getElem_toArray, List.getElem_cons_zero, List.getElem_cons_succ, Act.put, List.setIfInBounds_toArray, List.set_cons_zero, List.set_cons_succ]
            refine wpAnyH_take (i := 16) (v := ?_) rfl (by kernel_rfl) (by kernel_rfl) (by kernel_rfl) (fun _ _ _ h => h) (Or.inl ⟨by rfl, ?_⟩) (by assumption) ?_
            rotate_left
            · (intro w hSw; (try dsimp only at hSw); go_simp; try with_reducible rfl)
            try simp only [List.getElem_toArray, List.getElem_cons_zero, List.getElem_cons_succ, Act.put, List.setIfInBounds_toArray, List.set_cons_zero, List.set_cons_succ]
            refine wpAnyH_ready (rs := [18]) (by kernel_rfl) (by simp) ?_
            refine AllReadyH.cons (o := _) rfl (fun K hK => ?_) AllReadyH.nil
            refine wp_store_row 24 _ _ rfl (V2.heap.size) nilK #[.slice e0 KA.length f0, .slice e1 KB.length f1, .slice e2 KC.length f2, .slice e3 KD.length f3] 24 rfl rfl HP6.out size4k rfl (by kernel_rfl) ?_
            intro Wz z1 z2 z3 z4
            have HMZ : Hid (Made W1 Wz [(.slice e0 KA.length f0, KA), (.slice e1 KB.length f1, KB), (.slice e2 KC.length f2, KC), (.slice e3 KD.length f3, KD)]) := HMD.out.store HP6.out (by decide) ⟨z4, fun k _ hne => z2 k hne⟩ HP7.out
            have HPZ : Hid _ := z1
            refine hK.out _ _ (HSW.out _ HMZ.out.bel) (fun hHeld2 => ?_)
            clear hK K hHeld hHeld2 HMD HP6 z1 z2 z3 z4
            try simp only [List.getElem_toArray, List.getElem_cons_zero, List.getElem_cons_succ, Act.put, List.setIfInBounds_toArray, List.set_cons_zero, List.set_cons_succ]
            refine wpAnyH_done (by kernel_rfl) ?_ _
            exact REST.out _ _ _ _ _ _ _ _ _ _ HMZ.out HPZ.out
        · skip
          go_simp
          have HMD2 : Hid (Made W1 (V1.alloc (.cells #[.slice none 0 0, .slice none 0 0, .slice none 0 0, .slice none 0 0] 24)) [(.slice e0 KA.length f0, KA), (.slice e1 KB.length f1, KB)]) := HMD.out.more (below1 _ _)
          have HP6 : Hid ((V1.alloc (.cells #[.slice none 0 0, .slice none 0 0, .slice none 0 0, .slice none 0 0] 24)).heap[V1.heap.size]? = some (.cells nilK 24 (0, 0))) := heap_alloc_new _ _
          have HP7 : Hid (W1.heap.size ≤ V1.heap.size) := HMD.out.bel.size
          refine hK.out _ _ (HSW.out _ HMD2.out.bel) (fun hHeld2 => ?_)
          clear hK K hHeld HMD
          have hHeld := hHeld2
          clear hHeld2
          try simp only [List.getElem_toArray, List.getElem_cons_zero, List.getElem_cons_succ, Act.put, List.setIfInBounds_toArray, List.set_cons_zero, List.set_cons_succ]
          have HMD := HMD2
          clear HMD2
          refine wpAnyH_ready (rs := [11]) (by kernel_rfl) (by simp) ?_
          refine AllReadyH.cons (o := _) rfl (fun K hK => ?_) AllReadyH.nil
          go_simp
          refine (HC3.out _ (HW1.out.trans (HMD.out.bel.mono HW1.out.size))).mono ?_
          rintro e V2 ⟨v9, rfl, ho9, hb9⟩
          obtain ⟨e2, f2, rfl, _⟩ := own_form3 ho9
          have HMD2 : Hid _ := HMD.out.push ho9 hb9
          have HP6' : Hid (V2.heap[V1.heap.size]? = some (.cells nilK 24 (0, 0))) := (hb9.block _ (lt_of_heap HP6.out)).trans HP6.out
          clear ho9 hb9 HMD HP6
          have HMD := HMD2
          clear HMD2
          have HP6 := HP6'
          clear HP6'
          go_wp2_with fail
          refine hK.out _ _ (HSW.out _ HMD.out.bel) (fun hHeld2 => ?_)
          clear hK K hHeld
          have hHeld := hHeld2
          clear hHeld2
          try simp only [List.getElem_toArray, List.getElem_cons_zero, List.getElem_cons_succ, Act.put, List.setIfInBounds_toArray, List.set_cons_zero, List.set_cons_succ]
          refine wpAnyH_ready (rs := [15]) (by kernel_rfl) (by simp) ?_
          refine AllReadyH.cons (o := _) rfl (fun K hK => ?_) AllReadyH.nil
          go_simp
          refine (HC4.out _ (HW1.out.trans (HMD.out.bel.mono HW1.out.size))).mono ?_
          rintro e V3 ⟨v9, rfl, ho9, hb9⟩
          obtain ⟨e3, f3, rfl, _⟩ := own_form3 ho9
          have HMD2 : Hid _ := HMD.out.push ho9 hb9
          have HP6' : Hid (V3.heap[V1.heap.size]? = some (.cells nilK 24 (0, 0))) := (hb9.block _ (lt_of_heap HP6.out)).trans HP6.out
          clear ho9 hb9 HMD HP6
          have HMD := HMD2
          clear HMD2
          have HP6 := HP6'
          clear HP6'
          go_wp2_with fail
          refine hK.out _ _ (HSW.out _ HMD.out.bel) (fun hHeld2 => ?_)
          clear hK K hHeld
          have hHeld := hHeld2
          clear hHeld2
          try simp only [List.getElem_toArray, List.getElem_cons_zero, List.getElem_cons_succ, Act.put, List.setIfInBounds_toArray, List.set_cons_zero, List.set_cons_succ]
          refine wpAnyH_take (i := 16) (v := ?_) rfl (by kernel_rfl) (by kernel_rfl) (by kernel_rfl) (fun _ _ _ h => h) (Or.inl ⟨by rfl, ?_⟩) (by assumption) ?_
          rotate_left
          · (intro w hSw; (try dsimp only at hSw); go_simp; try with_reducible rfl)
          try simp only [List.getElem_toArray, List.getElem_cons_zero, List.getElem_cons_succ, Act.put, List.setIfInBounds_toArray, List.set_cons_zero, List.set_cons_succ]
          refine wpAnyH_ready (rs := [18]) (by kernel_rfl) (by simp) ?_
          refine AllReadyH.cons (o := _) rfl (fun K hK => ?_) AllReadyH.nil
          refine wp_store_row 24 _ _ rfl (V1.heap.size) nilK #[.slice e0 KA.length f0, .slice e1 KB.length f1, .slice e2 KC.length f2, .slice e3 KD.length f3] 24 rfl rfl HP6.out size4k rfl (by kernel_rfl) ?_
          intro Wz z1 z2 z3 z4
          have HMZ : Hid (Made W1 Wz [(.slice e0 KA.length f0, KA), (.slice e1 KB.length f1, KB), (.slice e2 KC.length f2, KC), (.slice e3 KD.length f3, KD)]) := HMD.out.store HP6.out (by decide) ⟨z4, fun k _ hne => z2 k hne⟩ HP7.out
          have HPZ : Hid _ := z1
          refine hK.out _ _ (HSW.out _ HMZ.out.bel) (fun hHeld2 => ?_)
          clear hK K hHeld hHeld2 HMD HP6 z1 z2 z3 z4
          try simp only [List.getElem_toArray, List.getElem_cons_zero, List.getElem_cons_succ, Act.put, List.setIfInBounds_toArray, List.set_cons_zero, List.set_cons_succ]
          refine wpAnyH_done (by kernel_rfl) ?_ _
          exact REST.out _ _ _ _ _ _ _ _ _ _ HMZ.out HPZ.out
      · skip
        go_simp
        have HMD2 : Hid (Made W1 (V0.alloc (.cells #[.slice none 0 0, .slice none 0 0, .slice none 0 0, .slice none 0 0] 24)) [(.slice e0 KA.length f0, KA)]) := HMD.out.more (below1 _ _)
        have HP6 : Hid ((V0.alloc (.cells #[.slice none 0 0, .slice none 0 0, .slice none 0 0, .slice none 0 0] 24)).heap[V0.heap.size]? = some (.cells nilK 24 (0, 0))) := heap_alloc_new _ _
        have HP7 : Hid (W1.heap.size ≤ V0.heap.size) := HMD.out.bel.size
        refine hK.out _ _ (HSW.out _ HMD2.out.bel) (fun hHeld2 => ?_)
        clear hK K hHeld HMD
        have hHeld := hHeld2
        clear hHeld2
        try simp only [List.getElem_toArray, List.getElem_cons_zero, List.getElem_cons_succ, Act.put, List.setIfInBounds_toArray, List.set_cons_zero, List.set_cons_succ]
        have HMD := HMD2
        clear HMD2
        refine wpAnyH_ready (rs := [7]) (by kernel_rfl) (by simp) ?_
        refine AllReadyH.cons (o := _) rfl (fun K hK => ?_) AllReadyH.nil
        go_simp
        refine (HC2.out _ (HW1.out.trans (HMD.out.bel.mono HW1.out.size))).mono ?_
        rintro e V1 ⟨v9, rfl, ho9, hb9⟩
        obtain ⟨e1, f1, rfl, _⟩ := own_form3 ho9
        have HMD2 : Hid _ := HMD.out.push ho9 hb9
        have HP6' : Hid (V1.heap[V0.heap.size]? = some (.cells nilK 24 (0, 0))) := (hb9.block _ (lt_of_heap HP6.out)).trans HP6.out
        clear ho9 hb9 HMD HP6
        have HMD := HMD2
        clear HMD2
        have HP6 := HP6'
        clear HP6'
        go_wp2_with fail
        refine hK.out _ _ (HSW.out _ HMD.out.bel) (fun hHeld2 => ?_)
        clear hK K hHeld
        have hHeld := hHeld2
        clear hHeld2
        try simp only [List.getElem_toArray, List.getElem_cons_zero, List.getElem_cons_succ, Act.put, List.setIfInBounds_toArray, List.set_cons_zero, List.set_cons_succ]
        refine wpAnyH_ready (rs := [11]) (by kernel_rfl) (by simp) ?_
        refine AllReadyH.cons (o := _) rfl (fun K hK => ?_) AllReadyH.nil
        go_simp
        refine (HC3.out _ (HW1.out.trans (HMD.out.bel.mono HW1.out.size))).mono ?_
        rintro e V2 ⟨v9, rfl, ho9, hb9⟩
        obtain ⟨e2, f2, rfl, _⟩ := own_form3 ho9
        have HMD2 : Hid _ := HMD.out.push ho9 hb9
        have HP6' : Hid (V2.heap[V0.heap.size]? = some (.cells nilK 24 (0, 0))) := (hb9.block _ (lt_of_heap HP6.out)).trans HP6.out
        clear ho9 hb9 HMD HP6
        have HMD := HMD2
        clear HMD2
        have HP6 := HP6'
        clear HP6'
        go_wp2_with fail
        refine hK.out _ _ (HSW.out _ HMD.out.bel) (fun hHeld2 => ?_)
        clear hK K hHeld
        have hHeld := hHeld2
        clear hHeld2
        try simp only [List.getElem_toArray, List.getElem_cons_zero, List.getElem_cons_succ, Act.put, List.setIfInBounds_toArray, List.set_cons_zero, List.set_cons_succ]
        refine wpAnyH_ready (rs := [15]) (by kernel_rfl) (by simp) ?_
        refine AllReadyH.cons (o := _) rfl (fun K hK => ?_) AllReadyH.nil
        go_simp
        refine (HC4.out _ (HW1.out.trans (HMD.out.bel.mono HW1.out.size))).mono ?_
        rintro e V3 ⟨v9, rfl, ho9, hb9⟩
        obtain ⟨e3, f3, rfl, _⟩ := own_form3 ho9
        have HMD2 : Hid _ := HMD.out.push ho9 hb9
        have HP6' : Hid (V3.heap[V0.heap.size]? = some (.cells nilK 24 (0, 0))) := (hb9.block _ (lt_of_heap HP6.out)).trans HP6.out
        clear ho9 hb9 HMD HP6
        have HMD := HMD2
        clear HMD2
        have HP6 := HP6'
        clear HP6'
        go_wp2_with fail
        refine hK.out _ _ (HSW.out _ HMD.out.bel) (fun hHeld2 => ?_)
        clear hK K hHeld
        have hHeld := hHeld2
        clear hHeld2
        try simp only [List.getElem_toArray, List.getElem_cons_zero, List.getElem_cons_succ, Act.put, List.setIfInBounds_toArray, List.set_cons_zero, List.set_cons_succ]
        refine wpAnyH_take (i := 16) (v := ?_) rfl (by kernel_rfl) (by kernel_rfl) (by kernel_rfl) (fun _ _ _ h => h) (Or.inl ⟨by rfl, ?_⟩) (by assumption) ?_
        rotate_left
        · (intro w hSw; (try dsimp only at hSw); go_simp; try with_reducible rfl)
        try simp only [List.getElem_toArray, List.getElem_cons_zero, List.getElem_cons_succ, Act.put, List.setIfInBounds_toArray, List.set_cons_zero, List.set_cons_succ]
        refine wpAnyH_ready (rs := [18]) (by kernel_rfl) (by simp) ?_
        refine AllReadyH.cons (o := _) rfl (fun K hK => ?_) AllReadyH.nil
        refine wp_store_row 24 _ _ rfl (V0.heap.size) nilK #[.slice e0 KA.length f0, .slice e1 KB.length f1, .slice e2 KC.length f2, .slice e3 KD.length f3] 24 rfl rfl HP6.out size4k rfl (by kernel_rfl) ?_
        intro Wz z1 z2 z3 z4
        have HMZ : Hid (Made W1 Wz [(.slice e0 KA.length f0, KA), (.slice e1 KB.length f1, KB), (.slice e2 KC.length f2, KC), (.slice e3 KD.length f3, KD)]) := HMD.out.store HP6.out (by decide) ⟨z4, fun k _ hne => z2 k hne⟩ HP7.out
        have HPZ : Hid _ := z1
        refine hK.out _ _ (HSW.out _ HMZ.out.bel) (fun hHeld2 => ?_)
        clear hK K hHeld hHeld2 HMD HP6 z1 z2 z3 z4
        try simp only [List.getElem_toArray, List.getElem_cons_zero, List.getElem_cons_succ, Act.put, List.setIfInBounds_toArray, List.set_cons_zero, List.set_cons_succ]
        refine wpAnyH_done (by kernel_rfl) ?_ _
        exact REST.out _ _ _ _ _ _ _ _ _ _ HMZ.out HPZ.out
    · skip
      go_simp
      have HMD2 : Hid (Made W1 (W1.drew.alloc (.cells #[.slice none 0 0, .slice none 0 0, .slice none 0 0, .slice none 0 0] 24)) []) := HMD.out.more (below1 _ _)
      have HP6 : Hid ((W1.drew.alloc (.cells #[.slice none 0 0, .slice none 0 0, .slice none 0 0, .slice none 0 0] 24)).heap[W1.heap.size]? = some (.cells nilK 24 (0, 0))) := heap_alloc_new _ _
      have HP7 : Hid (W1.heap.size ≤ W1.heap.size) := HMD.out.bel.size
      refine hK.out _ _ (HSW.out _ HMD2.out.bel) (fun hHeld2 => ?_)
      clear hK K hHeld HMD
      have hHeld := hHeld2
      clear hHeld2
      try simp only [List.getElem_toArray, List.getElem_cons_zero, List.getElem_cons_succ, Act.put, List.setIfInBounds_toArray, List.set_cons_zero, List.set_cons_succ]
      have HMD := HMD2
      clear HMD2
      refine wpAnyH_ready (rs := [3]) (by kernel_rfl) (by simp) ?_
      refine AllReadyH.cons (o := _) rfl (fun K hK => ?_) AllReadyH.nil
      go_simp
      refine (HC1.out _ (HW1.out.trans (HMD.out.bel.mono HW1.out.size))).mono ?_
      rintro e V0 ⟨v9, rfl, ho9, hb9⟩
      obtain ⟨e0, f0, rfl, _⟩ := own_form3 ho9
      have HMD2 : Hid _ := HMD.out.push ho9 hb9
      have HP6' : Hid (V0.heap[W1.heap.size]? = some (.cells nilK 24 (0, 0))) := (hb9.block _ (lt_of_heap HP6.out)).trans HP6.out
      clear ho9 hb9 HMD HP6
      have HMD := HMD2
      clear HMD2
      have HP6 := HP6'
      clear HP6'
      go_wp2_with fail
      refine hK.out _ _ (HSW.out _ HMD.out.bel) (fun hHeld2 => ?_)
      clear hK K hHeld
      have hHeld := hHeld2
      clear hHeld2
      try simp only [List.getElem_toArray, List.getElem_cons_zero, List.getElem_cons_succ, Act.put, List.setIfInBounds_toArray, List.set_cons_zero, List.set_cons_succ]
      refine wpAnyH_ready (rs := [7]) (by kernel_rfl) (by simp) ?_
      refine AllReadyH.cons (o := _) rfl (fun K hK => ?_) AllReadyH.nil
      go_simp
      refine (HC2.out _ (HW1.out.trans (HMD.out.bel.mono HW1.out.size))).mono ?_
      rintro e V1 ⟨v9, rfl, ho9, hb9⟩
      obtain ⟨e1, f1, rfl, _⟩ := own_form3 ho9
      have HMD2 : Hid _ := HMD.out.push ho9 hb9
      have HP6' : Hid (V1.heap[W1.heap.size]? = some (.cells nilK 24 (0, 0))) := (hb9.block _ (lt_of_heap HP6.out)).trans HP6.out
      clear ho9 hb9 HMD HP6
      have HMD := HMD2
      clear HMD2
      have HP6 := HP6'
      clear HP6'
      go_wp2_with fail
      refine hK.out _ _ (HSW.out _ HMD.out.bel) (fun hHeld2 => ?_)
      clear hK K hHeld
      have hHeld := hHeld2
      clear hHeld2
      try simp only [List.getElem_toArray, List.getElem_cons_zero, List.getElem_cons_succ, Act.put, List.setIfInBounds_toArray, List.set_cons_zero, List.set_cons_succ]
      refine wpAnyH_ready (rs := [11]) (by kernel_rfl) (by simp) ?_
      refine AllReadyH.cons (o := _) rfl (fun K hK => ?_) AllReadyH.nil
      go_simp
      refine (HC3.out _ (HW1.out.trans (HMD.out.bel.mono HW1.out.size))).mono ?_
      rintro e V2 ⟨v9, rfl, ho9, hb9⟩
      obtain ⟨e2, f2, rfl, _⟩ := own_form3 ho9
      have HMD2 : Hid _ := HMD.out.push ho9 hb9
      have HP6' : Hid (V2.heap[W1.heap.size]? = some (.cells nilK 24 (0, 0))) := (hb9.block _ (lt_of_heap HP6.out)).trans HP6.out
      clear ho9 hb9 HMD HP6
      have HMD := HMD2
      clear HMD2
      have HP6 := HP6'
      clear HP6'
      go_wp2_with fail
      refine hK.out _ _ (HSW.out _ HMD.out.bel) (fun hHeld2 => ?_)
      clear hK K hHeld
      have hHeld := hHeld2
      clear hHeld2
      try simp only [List.getElem_toArray, List.getElem_cons_zero, List.getElem_cons_succ, Act.put, List.setIfInBounds_toArray, List.set_cons_zero, List.set_cons_succ]
      refine wpAnyH_ready (rs := [15]) (by kernel_rfl) (by simp) ?_
      refine AllReadyH.cons (o := _) rfl (fun K hK => ?_) AllReadyH.nil
      go_simp
      refine (HC4.out _ (HW1.out.trans (HMD.out.bel.mono HW1.out.size))).mono ?_
      rintro e V3 ⟨v9, rfl, ho9, hb9⟩
      obtain ⟨e3, f3, rfl, _⟩ := own_form3 ho9
      have HMD2 : Hid _ := HMD.out.push ho9 hb9
      have HP6' : Hid (V3.heap[W1.heap.size]? = some (.cells nilK 24 (0, 0))) := (hb9.block _ (lt_of_heap HP6.out)).trans HP6.out
      clear ho9 hb9 HMD HP6
      have HMD := HMD2
      clear HMD2
      have HP6 := HP6'
      clear HP6'
      go_wp2_with fail
      refine hK.out _ _ (HSW.out _ HMD.out.bel) (fun hHeld2 => ?_)
      clear hK K hHeld
      have hHeld := hHeld2
      clear hHeld2
      try simp only [List.getElem_toArray, List.getElem_cons_zero, List.getElem_cons_succ, Act.put, List.setIfInBounds_toArray, List.set_cons_zero, List.set_cons_succ]
      refine wpAnyH_take (i := 16) (v := ?_) rfl (by kernel_rfl) (by kernel_rfl) (by kernel_rfl) (fun _ _ _ h => h) (Or.inl ⟨by rfl, ?_⟩) (by assumption) ?_
      rotate_left
      · (intro w hSw; (try dsimp only at hSw); go_simp; try with_reducible rfl)
      try simp only [List.getElem_toArray, List.getElem_cons_zero, List.getElem_cons_succ, Act.put, List.setIfInBounds_toArray, List.set_cons_zero, List.set_cons_succ]
      refine wpAnyH_ready (rs := [18]) (by kernel_rfl) (by simp) ?_
      refine AllReadyH.cons (o := _) rfl (fun K hK => ?_) AllReadyH.nil
      refine wp_store_row 24 _ _ rfl (W1.heap.size) nilK #[.slice e0 KA.length f0, .slice e1 KB.length f1, .slice e2 KC.length f2, .slice e3 KD.length f3] 24 rfl rfl HP6.out size4k rfl (by kernel_rfl) ?_
      intro Wz z1 z2 z3 z4
      have HMZ : Hid (Made W1 Wz [(.slice e0 KA.length f0, KA), (.slice e1 KB.length f1, KB), (.slice e2 KC.length f2, KC), (.slice e3 KD.length f3, KD)]) := HMD.out.store HP6.out (by decide) ⟨z4, fun k _ hne => z2 k hne⟩ HP7.out
      have HPZ : Hid _ := z1
      refine hK.out _ _ (HSW.out _ HMZ.out.bel) (fun hHeld2 => ?_)
      clear hK K hHeld hHeld2 HMD HP6 z1 z2 z3 z4
      try simp only [List.getElem_toArray, List.getElem_cons_zero, List.getElem_cons_succ, Act.put, List.setIfInBounds_toArray, List.set_cons_zero, List.set_cons_succ]
      refine wpAnyH_done (by kernel_rfl) ?_ _
      exact REST.out _ _ _ _ _ _ _ _ _ _ HMZ.out HPZ.out
end Go.Proofs.Ythejehbhjkmeeaa
