/- names: the walk. Conditions: the rows can be read. -/
import Derived.Test.YthejehbhjkmeeaaND
namespace Go.Proofs.Ythejehbhjkmeeaa
open Go.RowKit
/-- The names so far: a row of one's own, rising. -/
structure NmS (w wr : World) (v : Value) (N D : List ByteArray) : Prop where
  own : wr.ownsRow w.heap.size 9 1 v N.length (N.map Value.string)
  up : N.Pairwise nlt
  mem : ∀ x, x ∈ N ↔ x ∈ D
  bel : Below w.heap.size w wr
theorem NmS.more {w wr wr' : World} {v : Value} {N D : List ByteArray} (h : NmS w wr v N D) (hb : Below wr.heap.size wr wr') : NmS w wr' v N D := ⟨own_below h.own hb, h.up, h.mem, h.bel.trans (hb.mono h.bel.size)⟩
theorem ss_grown {w w' : World} {a : Option Addr} {n : Nat} {ns : List ByteArray} {r : Option Nat} (h : SS w a n ns) (hg : w.grownBy w' r) (hr : ∀ g, a = some ⟨g, 0, none⟩ → some g ≠ r) (ha : ∃ g, a = some ⟨g, 0, none⟩) : SS w' a n ns := by
  obtain ⟨g, rfl⟩ := ha
  refine ⟨h.len, ?_⟩
  rcases h.cells with h0 | ⟨b, off, e, hc⟩
  · exact .inl h0
  · cases e
    exact .inr ⟨g, 0, rfl, fun i t hi => hg.cell (hc i t hi) (hr g rfl)⟩
set_option linter.unusedSimpArgs false in
set_option maxRecDepth 20000 in
set_option maxHeartbeats 8000000 in
theorem names_any (a2 : Option Addr) (n2 c2 : Nat) (rs : List Rw) (kind : Int) (w : World) (hR : RS w a2 n2 rs) :
    Calls Try.prog 22 #[.slice a2 n2 c2, .int .i64 kind] w fun e w' => ∃ v, e = .returned v ∧ w'.ownsRow w.heap.size 9 1 v (srt (namesOf kind rs)).length ((srt (namesOf kind rs)).map Value.string) ∧ Below w.heap.size w w' := by
  have hl2 := hR.len
  have hr2 := hR.room
  have HR : Hid _ := hR
  clear hR
  go_enter Try.func22, Try.ntmps22
  go_wp2_with fail
  go_loopw [5, 6] (fun out i wr => ∃ (k : Nat) (N : List ByteArray) (a : Option Addr) (c : Nat), k ≤ n2 ∧ i = .int .i64 k ∧ out = .slice a N.length c ∧ N.length ≤ k ∧ Hid (NmS w wr (.slice a N.length c) N (namesOf kind (rs.take k)))) (fun _ i _ => n2 - (intOf i).toNat)
  case atStart => exact ⟨0, [], none, 0, by omega, rfl, rfl, by simp, ⟨⟨rfl, .inl ⟨rfl, rfl⟩⟩, by simp, fun x => by simp [namesOf], Below.refl _ _⟩⟩
  case round =>
    obtain ⟨k, N, a, c, hk, rfl, rfl, hNk, HS⟩ := hrel
    by_cases hlt : k < n2
    · have hkI : (k : Int) < n2 := by omega
      have hk0 : (0 : Int) ≤ k := by omega
      obtain ⟨o, ho⟩ := getK (os := rs) (k := k) (by omega)
      obtain ⟨b, off, rfl, hrg, hok, hbl⟩ := (HR.out.below HS.out.bel).at ho
      have c0 : wr.cell? ⟨b, off + k * 13, none⟩ = some (.int .i64 o.k) := hrg 0 _ hok.kind
      have c1 : wr.cell? ⟨b, off + k * 13 + 1, none⟩ = some (.string o.n) := hrg 1 _ hok.name
      have HSN : Hid (namesOf kind (rs.take (k + 1)) = if o.k = kind then addN (namesOf kind (rs.take k)) o.n else namesOf kind (rs.take k)) := by show _ = _; rw [take_snoc ho, namesOf_snoc]
      clear hrg hok ho
      by_cases hkd : o.k = kind
      · have he : (o.k == kind) = true := by simp [hkd]
        have HSN2 : Hid (∀ x, x ∈ namesOf kind (rs.take (k + 1)) ↔ x = o.n ∨ x ∈ namesOf kind (rs.take k)) := by
          show ∀ x, _
          intro x
          rw [HSN.out, if_pos hkd, addN_mem]
        clear hkd HSN
        generalize o.n = on at *
        generalize o.k = ok at *
        obtain ⟨m, hm⟩ : ∃ m, N.length = m := ⟨_, rfl⟩
        have HML : Hid _ := hm
        rw [hm] at hNk HS ⊢
        clear hm
        go_wp2_with fail
        go_loopw [8] (fun i wr => ∃ j : Nat, j ≤ m ∧ i = .int .i64 j ∧ Hid (∀ i x, i < j → N[i]? = some x → nlt x on) ∧ Hid (NmS w wr (.slice a m c) N (namesOf kind (rs.take k)))) (fun i _ => m - (intOf i).toNat)
        case atStart => exact ⟨0, by omega, rfl, (fun i x h => by omega), HS⟩
        case round =>
          obtain ⟨j, hj, rfl, HLT, HS2⟩ := hrel
          have hml := HML.out
          have hss := HS2.out.own
          have HSS : Hid (SS wr a m N) := (own_ss hss).1
          have hjI0 : (0 : Int) ≤ j := by omega
          by_cases hjm : j < m
          · have hjI : (j : Int) < m := by omega
            obtain ⟨nj, hnj⟩ := getK (os := N) (k := j) (by omega)
            obtain ⟨g, f, rfl, d0, hgl⟩ := HSS.out.at hnj
            cases hless : Op.bytesLess nj.toList on.toList
            · have hnl : ¬ nlt nj on := fun h => by rw [less_iff.2 h] at hless; cases hless
              cases heq : (nj.toList == on.toList)
              · have hne : nj ≠ on := fun e => by rw [toList_inj.2 e] at heq; cases heq
                have HGT : Hid (∀ x, N[j]? = some x → nlt on x) := fun x hx => by rw [hnj] at hx; cases hx; exact nlt_total hnl hne
                clear hnj hnl hne hss
                have hown9 := HS2.out.own
                rw [HML.out] at hown9
                have hadr := own_addr hown9
                clear hown9
                have hsl1 := sl_head hadr (j := j) (by omega) (by have := hr2; omega)
                obtain ⟨at9, hsl2, hat⟩ := sl_tail hadr (j := j) (by omega)
                obtain ⟨t9, ht9⟩ : ∃ t9, m - j = t9 := ⟨_, rfl⟩
                obtain ⟨s9, hs9⟩ : ∃ s9, c - j = s9 := ⟨_, rfl⟩
                rw [ht9, hs9] at hsl2
                rw [ht9] at hat
                have HT9 : Hid _ := ht9
                have HHD : Hid (SS wr (some ⟨g, f, none⟩) j (N.take j)) := HSS.out.take j (by omega)
                have HTL : Hid (SS wr at9 t9 (N.drop j)) := by
                  show SS _ _ _ _
                  rcases hat with h0 | ⟨g9, e9, e8⟩
                  · exact ⟨by rw [List.length_drop, HML.out, ht9], .inl h0⟩
                  · have hss9 := HSS.out
                    rw [e9] at hss9
                    rw [← ht9]
                    exact hss9.drop j (.inr e8)
                clear hadr hat ht9 hs9
                go_wp2_with fail
                refine wp_region_held_drew (S := fun _ => True) (by kernel_rfl) trivial (fun hHeld => ?_)
                have HB0 : Hid (Below wr.heap.size wr wr.drew) := (Below.refl _ _).drew
                refine wpAnyH_take (i := 1) (v := ?_) rfl (by kernel_rfl) (by kernel_rfl) (by kernel_rfl) (fun _ _ _ h => h) (Or.inl ⟨by rfl, ?_⟩) (by assumption) ?_
                rotate_left
                · (intro w hSw; (try dsimp only at hSw); go_simp; try with_reducible rfl)
                try simp only [List.getElem_toArray, List.getElem_cons_zero, List.getElem_cons_succ, Act.put, List.setIfInBounds_toArray, List.set_cons_zero, List.set_cons_succ]
                refine wpAnyH_take (i := 2) (v := ?_) rfl (by kernel_rfl) (by kernel_rfl) (by kernel_rfl) (fun _ _ _ h => h) (Or.inl ⟨by rfl, ?_⟩) (by assumption) ?_
                rotate_left
                · (intro w hSw; (try dsimp only at hSw); go_simp; try with_reducible rfl)
                try simp only [List.getElem_toArray, List.getElem_cons_zero, List.getElem_cons_succ, Act.put, List.setIfInBounds_toArray, List.set_cons_zero, List.set_cons_succ]
                refine wpAnyH_take (i := 3) (v := ?_) rfl (by kernel_rfl) (by kernel_rfl) (by kernel_rfl) (fun _ _ _ h => h) (Or.inl ⟨by rfl, ?_⟩) (by assumption) ?_
                rotate_left
                · (intro w hSw; (try dsimp only at hSw); go_simp; try with_reducible rfl)
                try simp only [List.getElem_toArray, List.getElem_cons_zero, List.getElem_cons_succ, Act.put, List.setIfInBounds_toArray, List.set_cons_zero, List.set_cons_succ]
                refine wpAnyH_take (i := 5) (v := ?_) rfl (by kernel_rfl) (by kernel_rfl) (by kernel_rfl) (fun _ _ _ h => h) (Or.inl ⟨by rfl, ?_⟩) (by assumption) ?_
                rotate_left
                · (intro w hSw; (try dsimp only at hSw); go_simp; try with_reducible rfl)
                try simp only [List.getElem_toArray, List.getElem_cons_zero, List.getElem_cons_succ, Act.put, List.setIfInBounds_toArray, List.set_cons_zero, List.set_cons_succ]
                refine wpAnyH_take (i := 8) (v := ?_) rfl (by kernel_rfl) (by kernel_rfl) (by kernel_rfl) (fun _ _ _ h => h) (Or.inl ⟨by rfl, ?_⟩) (by assumption) ?_
                rotate_left
                · (intro w hSw; (try dsimp only at hSw); go_simp; try with_reducible rfl)
                try simp only [List.getElem_toArray, List.getElem_cons_zero, List.getElem_cons_succ, Act.put, List.setIfInBounds_toArray, List.set_cons_zero, List.set_cons_succ]
                refine wpAnyH_take (i := 9) (v := ?_) rfl (by kernel_rfl) (by kernel_rfl) (by kernel_rfl) (fun _ _ _ h => h) (Or.inl ⟨by rfl, ?_⟩) (by assumption) ?_
                rotate_left
                · (intro w hSw; (try dsimp only at hSw); go_simp; try with_reducible rfl)
                try simp only [List.getElem_toArray, List.getElem_cons_zero, List.getElem_cons_succ, Act.put, List.setIfInBounds_toArray, List.set_cons_zero, List.set_cons_succ]
                refine wpAnyH_take (i := 10) (v := ?_) rfl (by kernel_rfl) (by kernel_rfl) (by kernel_rfl) (fun _ _ _ h => h) (Or.inl ⟨by rfl, ?_⟩) (by assumption) ?_
                rotate_left
                · (intro w hSw; (try dsimp only at hSw); go_simp; try with_reducible rfl)
                try simp only [List.getElem_toArray, List.getElem_cons_zero, List.getElem_cons_succ, Act.put, List.setIfInBounds_toArray, List.set_cons_zero, List.set_cons_succ]
                refine wpAnyH_ready (rs := [0, 6]) (by kernel_rfl) (by simp) ?_
                refine AllReadyH.cons (o := _) rfl (fun K hK => ?_) (AllReadyH.cons (o := _) rfl (fun K hK => ?_) AllReadyH.nil)
                · skip
                  go_simp
                  have HBe0 : Hid (Below wr.heap.size wr (wr.drew.alloc (.cells #[] 9))) := HB0.out.alloc (by have := HB0.out.size; first | omega | (simp; omega) | simp) _
                  have HE : Hid ((wr.drew.alloc (.cells #[] 9)).ownsRow wr.heap.size 9 1 (.slice (some ⟨wr.heap.size, 0, none⟩) 0 0) ([] : List ByteArray).length (([] : List ByteArray).map Value.string)) := by
                    have h9 := empty_s wr.drew wr.heap.size HB0.out.size
                    rw [show wr.drew.heap.size = wr.heap.size from by first | rfl | simp] at h9
                    exact h9
                  refine hK.out _ _ trivial (fun hHeld2 => ?_)
                  clear hK K hHeld
                  have hHeld := hHeld2
                  clear hHeld2
                  try simp only [List.getElem_toArray, List.getElem_cons_zero, List.getElem_cons_succ, Act.put, List.setIfInBounds_toArray, List.set_cons_zero, List.set_cons_succ]
                  refine wpAnyH_ready (rs := [4, 6]) (by kernel_rfl) (by simp) ?_
                  refine AllReadyH.cons (o := _) rfl (fun K hK => ?_) (AllReadyH.cons (o := _) rfl (fun K hK => ?_) AllReadyH.nil)
                  · skip
                    obtain ⟨b1, d1, V1, r1, ow1, gr1⟩ := run_append_ss _ wr.heap.size _ [] HE.out _ j c (N.take j) (HHD.out.below HBe0.out) (by simp; omega) HBe0.out.size
                    simp only [List.length_nil, Nat.zero_add, List.nil_append] at r1 ow1
                    have HB1 : Hid (Below wr.heap.size wr V1) := HBe0.out.grown gr1 HBe0.out.size (fun q hq => (World.ownsRow.lt HE.out q hq).1)
                    have OW1 : Hid (V1.ownsRow wr.heap.size 9 1 (.slice b1 j d1) (N.take j).length ((N.take j).map Value.string)) := ow1
                    refine wp_append_run _ _ 53 rfl _ _ rfl rfl _ r1 ?_
                    clear r1 ow1 gr1
                    refine hK.out _ _ trivial (fun hHeld2 => ?_)
                    clear hK K hHeld
                    have hHeld := hHeld2
                    clear hHeld2
                    try simp only [List.getElem_toArray, List.getElem_cons_zero, List.getElem_cons_succ, Act.put, List.setIfInBounds_toArray, List.set_cons_zero, List.set_cons_succ]
                    refine wpAnyH_ready (rs := [6]) (by kernel_rfl) (by simp) ?_
                    refine AllReadyH.cons (o := _) rfl (fun K hK => ?_) AllReadyH.nil
                    go_simp
                    have HBo1 : Hid (Below wr.heap.size wr (V1.alloc (.cells #[.string on] 9))) := HB1.out.alloc (by have := HB1.out.size; first | omega | (simp; omega) | simp) _
                    have HO : Hid (SS (V1.alloc (.cells #[.string on] 9)) (some ⟨V1.heap.size, 0, none⟩) 1 [on]) := by
                      have h9 := ss_one V1 on
                      rw [show V1.heap.size = V1.heap.size from by first | rfl | simp] at h9
                      exact h9
                    have OW1b : Hid ((V1.alloc (.cells #[.string on] 9)).ownsRow wr.heap.size 9 1 (.slice b1 j d1) (N.take j).length ((N.take j).map Value.string)) := own_below OW1.out (below1 _ _)
                    refine hK.out _ _ trivial (fun hHeld2 => ?_)
                    clear hK K hHeld
                    have hHeld := hHeld2
                    clear hHeld2
                    try simp only [List.getElem_toArray, List.getElem_cons_zero, List.getElem_cons_succ, Act.put, List.setIfInBounds_toArray, List.set_cons_zero, List.set_cons_succ]
                    refine wpAnyH_ready (rs := [7]) (by kernel_rfl) (by simp) ?_
                    refine AllReadyH.cons (o := _) rfl (fun K hK => ?_) AllReadyH.nil
                    obtain ⟨b2, d2, V2, r2, ow2, gr2⟩ := run_append_ss _ wr.heap.size _ (N.take j) OW1b.out _ 1 1 [on] HO.out (by rw [List.length_take]; omega) HBo1.out.size
                    have htl : (N.take j).length = j := by rw [List.length_take, HML.out]; omega
                    have HB2 : Hid (Below wr.heap.size wr V2) := HBo1.out.grown gr2 HBo1.out.size (fun q hq => (World.ownsRow.lt OW1b.out q hq).1)
                    rw [htl] at r2 ow2
                    have OW2 : Hid (V2.ownsRow wr.heap.size 9 1 (.slice b2 (j + 1) d2) (N.take j ++ [on]).length ((N.take j ++ [on]).map Value.string)) := ow2
                    refine wp_append_run _ _ 53 rfl _ _ rfl rfl _ r2 ?_
                    clear r2 ow2 gr2 htl
                    refine hK.out _ _ trivial (fun hHeld2 => ?_)
                    clear hK K hHeld
                    have hHeld := hHeld2
                    clear hHeld2
                    try simp only [List.getElem_toArray, List.getElem_cons_zero, List.getElem_cons_succ, Act.put, List.setIfInBounds_toArray, List.set_cons_zero, List.set_cons_succ]
                    refine wpAnyH_ready (rs := [11]) (by kernel_rfl) (by simp) ?_
                    refine AllReadyH.cons (o := _) rfl (fun K hK => ?_) AllReadyH.nil
                    obtain ⟨b3, d3, V3, r3, ow3, gr3⟩ := run_append_ss _ wr.heap.size _ (N.take j ++ [on]) OW2.out _ t9 s9 (N.drop j) (HTL.out.below HB2.out) (by have := HT9.out; rw [List.length_append, List.length_take]; simp only [List.length_cons, List.length_nil]; omega) HB2.out.size
                    have htl : (N.take j ++ [on]).length = j + 1 := by rw [List.length_append, List.length_take, HML.out]; first | (simp; done) | (simp; omega)
                    have HB3 : Hid (Below wr.heap.size wr V3) := HB2.out.grown gr3 HB2.out.size (fun q hq => (World.ownsRow.lt OW2.out q hq).1)
                    rw [htl, show j + 1 + t9 = m + 1 from by have := HT9.out; omega] at r3 ow3
                    have OW3 : Hid (V3.ownsRow w.heap.size 9 1 (.slice b3 (m + 1) d3) (N.take j ++ [on] ++ N.drop j).length ((N.take j ++ [on] ++ N.drop j).map Value.string)) := own_base ow3 HS2.out.bel.size
                    refine wp_append_run _ _ 53 rfl _ _ rfl rfl _ r3 ?_
                    clear r3 ow3 gr3 htl
                    refine hK.out _ _ trivial (fun hHeld2 => ?_)
                    clear hK K hHeld
                    have hHeld := hHeld2
                    clear hHeld2
                    try simp only [List.getElem_toArray, List.getElem_cons_zero, List.getElem_cons_succ, Act.put, List.setIfInBounds_toArray, List.set_cons_zero, List.set_cons_succ]
                    refine wpAnyH_take (i := 12) (v := ?_) rfl (by kernel_rfl) (by kernel_rfl) (by kernel_rfl) (fun _ _ _ h => h) (Or.inl ⟨by rfl, ?_⟩) (by assumption) ?_
                    rotate_left
                    · (intro w hSw; (try dsimp only at hSw); go_simp; try with_reducible rfl)
                    try simp only [List.getElem_toArray, List.getElem_cons_zero, List.getElem_cons_succ, Act.put, List.setIfInBounds_toArray, List.set_cons_zero, List.set_cons_succ]
                    refine wpAnyH_done (by kernel_rfl) ?_ _
                    clear hHeld
                    have HS9 : Hid (NmS w V3 (.slice b3 (m + 1) d3) (N.take j ++ [on] ++ N.drop j) (namesOf kind (rs.take (k + 1)))) := ⟨OW3.out, ins_pair HS2.out.up HLT.out HGT.out, fun x => by rw [ins_mem, HSN2.out x, HS2.out.mem x], HS2.out.bel.trans (HB3.out.mono HS2.out.bel.size)⟩
                    have HLN : Hid ((N.take j ++ [on] ++ N.drop j).length = m + 1) := by
                      show _ = _
                      have := HML.out
                      simp only [List.length_append, List.length_take, List.length_drop, List.length_cons, List.length_nil]; omega
                    go_wp2_with fail
                    rw [← HLN.out] at HS9 ⊢
                    go_roundw
                    case rel => exact ⟨k + 1, _, b3, d3, by omega, by go_num, by rfl, by have := HLN.out; omega, HS9⟩
                    case measure => simp [intOf]; omega
                  · skip
                    go_simp
                    have HBo0 : Hid (Below wr.heap.size wr ((wr.drew.alloc (.cells #[] 9)).alloc (.cells #[.string on] 9))) := HBe0.out.alloc (by have := HBe0.out.size; first | omega | (simp; omega) | simp) _
                    have HO : Hid (SS ((wr.drew.alloc (.cells #[] 9)).alloc (.cells #[.string on] 9)) (some ⟨wr.heap.size + 1, 0, none⟩) 1 [on]) := by
                      have h9 := ss_one (wr.drew.alloc (.cells #[] 9)) on
                      rw [show (wr.drew.alloc (.cells #[] 9)).heap.size = wr.heap.size + 1 from by first | rfl | simp] at h9
                      exact h9
                    have HE2 : Hid (((wr.drew.alloc (.cells #[] 9)).alloc (.cells #[.string on] 9)).ownsRow wr.heap.size 9 1 (.slice (some ⟨wr.heap.size, 0, none⟩) 0 0) ([] : List ByteArray).length (([] : List ByteArray).map Value.string)) := own_below HE.out (below1 _ _)
                    refine hK.out _ _ trivial (fun hHeld2 => ?_)
                    clear hK K hHeld
                    have hHeld := hHeld2
                    clear hHeld2
                    try simp only [List.getElem_toArray, List.getElem_cons_zero, List.getElem_cons_succ, Act.put, List.setIfInBounds_toArray, List.set_cons_zero, List.set_cons_succ]
                    refine wpAnyH_ready (rs := [4]) (by kernel_rfl) (by simp) ?_
                    refine AllReadyH.cons (o := _) rfl (fun K hK => ?_) AllReadyH.nil
                    obtain ⟨b1, d1, V1, r1, ow1, gr1⟩ := run_append_ss _ wr.heap.size _ [] HE2.out _ j c (N.take j) (HHD.out.below HBo0.out) (by simp; omega) HBo0.out.size
                    simp only [List.length_nil, Nat.zero_add, List.nil_append] at r1 ow1
                    have HB1 : Hid (Below wr.heap.size wr V1) := HBo0.out.grown gr1 HBo0.out.size (fun q hq => (World.ownsRow.lt HE2.out q hq).1)
                    have OW1 : Hid (V1.ownsRow wr.heap.size 9 1 (.slice b1 j d1) (N.take j).length ((N.take j).map Value.string)) := ow1
                    refine wp_append_run _ _ 53 rfl _ _ rfl rfl _ r1 ?_
                    have HO3 : Hid (SS V1 (some ⟨wr.heap.size + 1, 0, none⟩) 1 [on]) := ss_grown HO.out gr1 (fun g hg => by cases hg; simp [Value.ownBlock]; try omega) ⟨_, rfl⟩
                    clear r1 ow1 gr1
                    refine hK.out _ _ trivial (fun hHeld2 => ?_)
                    clear hK K hHeld
                    have hHeld := hHeld2
                    clear hHeld2
                    try simp only [List.getElem_toArray, List.getElem_cons_zero, List.getElem_cons_succ, Act.put, List.setIfInBounds_toArray, List.set_cons_zero, List.set_cons_succ]
                    refine wpAnyH_ready (rs := [7]) (by kernel_rfl) (by simp) ?_
                    refine AllReadyH.cons (o := _) rfl (fun K hK => ?_) AllReadyH.nil
                    obtain ⟨b2, d2, V2, r2, ow2, gr2⟩ := run_append_ss _ wr.heap.size _ (N.take j) OW1.out _ 1 1 [on] HO3.out (by rw [List.length_take]; omega) HB1.out.size
                    have htl : (N.take j).length = j := by rw [List.length_take, HML.out]; omega
                    have HB2 : Hid (Below wr.heap.size wr V2) := HB1.out.grown gr2 HB1.out.size (fun q hq => (World.ownsRow.lt OW1.out q hq).1)
                    rw [htl] at r2 ow2
                    have OW2 : Hid (V2.ownsRow wr.heap.size 9 1 (.slice b2 (j + 1) d2) (N.take j ++ [on]).length ((N.take j ++ [on]).map Value.string)) := ow2
                    refine wp_append_run _ _ 53 rfl _ _ rfl rfl _ r2 ?_
                    clear r2 ow2 gr2 htl
                    refine hK.out _ _ trivial (fun hHeld2 => ?_)
                    clear hK K hHeld
                    have hHeld := hHeld2
                    clear hHeld2
                    try simp only [List.getElem_toArray, List.getElem_cons_zero, List.getElem_cons_succ, Act.put, List.setIfInBounds_toArray, List.set_cons_zero, List.set_cons_succ]
                    refine wpAnyH_ready (rs := [11]) (by kernel_rfl) (by simp) ?_
                    refine AllReadyH.cons (o := _) rfl (fun K hK => ?_) AllReadyH.nil
                    obtain ⟨b3, d3, V3, r3, ow3, gr3⟩ := run_append_ss _ wr.heap.size _ (N.take j ++ [on]) OW2.out _ t9 s9 (N.drop j) (HTL.out.below HB2.out) (by have := HT9.out; rw [List.length_append, List.length_take]; simp only [List.length_cons, List.length_nil]; omega) HB2.out.size
                    have htl : (N.take j ++ [on]).length = j + 1 := by rw [List.length_append, List.length_take, HML.out]; first | (simp; done) | (simp; omega)
                    have HB3 : Hid (Below wr.heap.size wr V3) := HB2.out.grown gr3 HB2.out.size (fun q hq => (World.ownsRow.lt OW2.out q hq).1)
                    rw [htl, show j + 1 + t9 = m + 1 from by have := HT9.out; omega] at r3 ow3
                    have OW3 : Hid (V3.ownsRow w.heap.size 9 1 (.slice b3 (m + 1) d3) (N.take j ++ [on] ++ N.drop j).length ((N.take j ++ [on] ++ N.drop j).map Value.string)) := own_base ow3 HS2.out.bel.size
                    refine wp_append_run _ _ 53 rfl _ _ rfl rfl _ r3 ?_
                    clear r3 ow3 gr3 htl
                    refine hK.out _ _ trivial (fun hHeld2 => ?_)
                    clear hK K hHeld
                    have hHeld := hHeld2
                    clear hHeld2
                    try simp only [List.getElem_toArray, List.getElem_cons_zero, List.getElem_cons_succ, Act.put, List.setIfInBounds_toArray, List.set_cons_zero, List.set_cons_succ]
                    refine wpAnyH_take (i := 12) (v := ?_) rfl (by kernel_rfl) (by kernel_rfl) (by kernel_rfl) (fun _ _ _ h => h) (Or.inl ⟨by rfl, ?_⟩) (by assumption) ?_
                    rotate_left
                    · (intro w hSw; (try dsimp only at hSw); go_simp; try with_reducible rfl)
                    try simp only [List.getElem_toArray, List.getElem_cons_zero, List.getElem_cons_succ, Act.put, List.setIfInBounds_toArray, List.set_cons_zero, List.set_cons_succ]
                    refine wpAnyH_done (by kernel_rfl) ?_ _
                    clear hHeld
                    have HS9 : Hid (NmS w V3 (.slice b3 (m + 1) d3) (N.take j ++ [on] ++ N.drop j) (namesOf kind (rs.take (k + 1)))) := ⟨OW3.out, ins_pair HS2.out.up HLT.out HGT.out, fun x => by rw [ins_mem, HSN2.out x, HS2.out.mem x], HS2.out.bel.trans (HB3.out.mono HS2.out.bel.size)⟩
                    have HLN : Hid ((N.take j ++ [on] ++ N.drop j).length = m + 1) := by
                      show _ = _
                      have := HML.out
                      simp only [List.length_append, List.length_take, List.length_drop, List.length_cons, List.length_nil]; omega
                    go_wp2_with fail
                    rw [← HLN.out] at HS9 ⊢
                    go_roundw
                    case rel => exact ⟨k + 1, _, b3, d3, by omega, by go_num, by rfl, by have := HLN.out; omega, HS9⟩
                    case measure => simp [intOf]; omega
                · skip
                  go_simp
                  have HBo0 : Hid (Below wr.heap.size wr (wr.drew.alloc (.cells #[.string on] 9))) := HB0.out.alloc (by have := HB0.out.size; first | omega | (simp; omega) | simp) _
                  have HO : Hid (SS (wr.drew.alloc (.cells #[.string on] 9)) (some ⟨wr.heap.size, 0, none⟩) 1 [on]) := by
                    have h9 := ss_one wr.drew on
                    rw [show wr.drew.heap.size = wr.heap.size from by first | rfl | simp] at h9
                    exact h9
                  refine hK.out _ _ trivial (fun hHeld2 => ?_)
                  clear hK K hHeld
                  have hHeld := hHeld2
                  clear hHeld2
                  try simp only [List.getElem_toArray, List.getElem_cons_zero, List.getElem_cons_succ, Act.put, List.setIfInBounds_toArray, List.set_cons_zero, List.set_cons_succ]
                  refine wpAnyH_ready (rs := [0]) (by kernel_rfl) (by simp) ?_
                  refine AllReadyH.cons (o := _) rfl (fun K hK => ?_) AllReadyH.nil
                  go_simp
                  have HBe0 : Hid (Below wr.heap.size wr ((wr.drew.alloc (.cells #[.string on] 9)).alloc (.cells #[] 9))) := HBo0.out.alloc (by have := HBo0.out.size; first | omega | (simp; omega) | simp) _
                  have HE : Hid (((wr.drew.alloc (.cells #[.string on] 9)).alloc (.cells #[] 9)).ownsRow wr.heap.size 9 1 (.slice (some ⟨wr.heap.size + 1, 0, none⟩) 0 0) ([] : List ByteArray).length (([] : List ByteArray).map Value.string)) := by
                    have h9 := empty_s (wr.drew.alloc (.cells #[.string on] 9)) wr.heap.size HBo0.out.size
                    rw [show (wr.drew.alloc (.cells #[.string on] 9)).heap.size = wr.heap.size + 1 from by first | rfl | simp] at h9
                    exact h9
                  have HO2 : Hid (SS ((wr.drew.alloc (.cells #[.string on] 9)).alloc (.cells #[] 9)) (some ⟨wr.heap.size, 0, none⟩) 1 [on]) := HO.out.below (below1 _ _)
                  refine hK.out _ _ trivial (fun hHeld2 => ?_)
                  clear hK K hHeld
                  have hHeld := hHeld2
                  clear hHeld2
                  try simp only [List.getElem_toArray, List.getElem_cons_zero, List.getElem_cons_succ, Act.put, List.setIfInBounds_toArray, List.set_cons_zero, List.set_cons_succ]
                  refine wpAnyH_ready (rs := [4]) (by kernel_rfl) (by simp) ?_
                  refine AllReadyH.cons (o := _) rfl (fun K hK => ?_) AllReadyH.nil
                  obtain ⟨b1, d1, V1, r1, ow1, gr1⟩ := run_append_ss _ wr.heap.size _ [] HE.out _ j c (N.take j) (HHD.out.below HBe0.out) (by simp; omega) HBe0.out.size
                  simp only [List.length_nil, Nat.zero_add, List.nil_append] at r1 ow1
                  have HB1 : Hid (Below wr.heap.size wr V1) := HBe0.out.grown gr1 HBe0.out.size (fun q hq => (World.ownsRow.lt HE.out q hq).1)
                  have OW1 : Hid (V1.ownsRow wr.heap.size 9 1 (.slice b1 j d1) (N.take j).length ((N.take j).map Value.string)) := ow1
                  refine wp_append_run _ _ 53 rfl _ _ rfl rfl _ r1 ?_
                  have HO3 : Hid (SS V1 (some ⟨wr.heap.size, 0, none⟩) 1 [on]) := ss_grown HO2.out gr1 (fun g hg => by cases hg; simp [Value.ownBlock]; try omega) ⟨_, rfl⟩
                  clear r1 ow1 gr1
                  refine hK.out _ _ trivial (fun hHeld2 => ?_)
                  clear hK K hHeld
                  have hHeld := hHeld2
                  clear hHeld2
                  try simp only [List.getElem_toArray, List.getElem_cons_zero, List.getElem_cons_succ, Act.put, List.setIfInBounds_toArray, List.set_cons_zero, List.set_cons_succ]
                  refine wpAnyH_ready (rs := [7]) (by kernel_rfl) (by simp) ?_
                  refine AllReadyH.cons (o := _) rfl (fun K hK => ?_) AllReadyH.nil
                  obtain ⟨b2, d2, V2, r2, ow2, gr2⟩ := run_append_ss _ wr.heap.size _ (N.take j) OW1.out _ 1 1 [on] HO3.out (by rw [List.length_take]; omega) HB1.out.size
                  have htl : (N.take j).length = j := by rw [List.length_take, HML.out]; omega
                  have HB2 : Hid (Below wr.heap.size wr V2) := HB1.out.grown gr2 HB1.out.size (fun q hq => (World.ownsRow.lt OW1.out q hq).1)
                  rw [htl] at r2 ow2
                  have OW2 : Hid (V2.ownsRow wr.heap.size 9 1 (.slice b2 (j + 1) d2) (N.take j ++ [on]).length ((N.take j ++ [on]).map Value.string)) := ow2
                  refine wp_append_run _ _ 53 rfl _ _ rfl rfl _ r2 ?_
                  clear r2 ow2 gr2 htl
                  refine hK.out _ _ trivial (fun hHeld2 => ?_)
                  clear hK K hHeld
                  have hHeld := hHeld2
                  clear hHeld2
                  try simp only [List.getElem_toArray, List.getElem_cons_zero, List.getElem_cons_succ, Act.put, List.setIfInBounds_toArray, List.set_cons_zero, List.set_cons_succ]
                  refine wpAnyH_ready (rs := [11]) (by kernel_rfl) (by simp) ?_
                  refine AllReadyH.cons (o := _) rfl (fun K hK => ?_) AllReadyH.nil
                  obtain ⟨b3, d3, V3, r3, ow3, gr3⟩ := run_append_ss _ wr.heap.size _ (N.take j ++ [on]) OW2.out _ t9 s9 (N.drop j) (HTL.out.below HB2.out) (by have := HT9.out; rw [List.length_append, List.length_take]; simp only [List.length_cons, List.length_nil]; omega) HB2.out.size
                  have htl : (N.take j ++ [on]).length = j + 1 := by rw [List.length_append, List.length_take, HML.out]; first | (simp; done) | (simp; omega)
                  have HB3 : Hid (Below wr.heap.size wr V3) := HB2.out.grown gr3 HB2.out.size (fun q hq => (World.ownsRow.lt OW2.out q hq).1)
                  rw [htl, show j + 1 + t9 = m + 1 from by have := HT9.out; omega] at r3 ow3
                  have OW3 : Hid (V3.ownsRow w.heap.size 9 1 (.slice b3 (m + 1) d3) (N.take j ++ [on] ++ N.drop j).length ((N.take j ++ [on] ++ N.drop j).map Value.string)) := own_base ow3 HS2.out.bel.size
                  refine wp_append_run _ _ 53 rfl _ _ rfl rfl _ r3 ?_
                  clear r3 ow3 gr3 htl
                  refine hK.out _ _ trivial (fun hHeld2 => ?_)
                  clear hK K hHeld
                  have hHeld := hHeld2
                  clear hHeld2
                  try simp only [List.getElem_toArray, List.getElem_cons_zero, List.getElem_cons_succ, Act.put, List.setIfInBounds_toArray, List.set_cons_zero, List.set_cons_succ]
                  refine wpAnyH_take (i := 12) (v := ?_) rfl (by kernel_rfl) (by kernel_rfl) (by kernel_rfl) (fun _ _ _ h => h) (Or.inl ⟨by rfl, ?_⟩) (by assumption) ?_
                  rotate_left
                  · (intro w hSw; (try dsimp only at hSw); go_simp; try with_reducible rfl)
                  try simp only [List.getElem_toArray, List.getElem_cons_zero, List.getElem_cons_succ, Act.put, List.setIfInBounds_toArray, List.set_cons_zero, List.set_cons_succ]
                  refine wpAnyH_done (by kernel_rfl) ?_ _
                  clear hHeld
                  have HS9 : Hid (NmS w V3 (.slice b3 (m + 1) d3) (N.take j ++ [on] ++ N.drop j) (namesOf kind (rs.take (k + 1)))) := ⟨OW3.out, ins_pair HS2.out.up HLT.out HGT.out, fun x => by rw [ins_mem, HSN2.out x, HS2.out.mem x], HS2.out.bel.trans (HB3.out.mono HS2.out.bel.size)⟩
                  have HLN : Hid ((N.take j ++ [on] ++ N.drop j).length = m + 1) := by
                    show _ = _
                    have := HML.out
                    simp only [List.length_append, List.length_take, List.length_drop, List.length_cons, List.length_nil]; omega
                  go_wp2_with fail
                  rw [← HLN.out] at HS9 ⊢
                  go_roundw
                  case rel => exact ⟨k + 1, _, b3, d3, by omega, by go_num, by rfl, by have := HLN.out; omega, HS9⟩
                  case measure => simp [intOf]; omega
              · have HME : Hid (on ∈ N) := by
                  show on ∈ N
                  rw [← toList_inj.1 heq]; exact List.mem_of_getElem? hnj
                have HS3 : Hid (NmS w wr (.slice (some ⟨g, f, none⟩) m c) N (namesOf kind (rs.take (k + 1)))) := ⟨HS2.out.own, HS2.out.up, fun x => by
                  rw [HSN2.out x, HS2.out.mem x]
                  exact ⟨.inr, fun h => h.elim (fun e => by rw [e]; exact (HS2.out.mem on).1 HME.out) id⟩, HS2.out.bel⟩
                clear hnj hnl hss
                go_wp2_with fail
                rw [← HML.out] at HS3 ⊢
                go_roundw
                case rel => exact ⟨k + 1, N, _, c, by omega, by go_num, by rfl, by have := HML.out; omega, HS3⟩
                case measure => simp [intOf]; omega
            · have HLT2 : Hid (∀ i x, i < j + 1 → N[i]? = some x → nlt x on) := fun i x hi hx => by
                by_cases e : i = j
                · subst e; rw [hnj] at hx; cases hx; exact less_iff.1 hless
                · exact HLT.out i x (by omega) hx
              clear hnj hss
              go_wp2_with fail
              go_roundw
              case rel => exact ⟨j + 1, by omega, by go_num, HLT2, HS2⟩
              case measure => simp [intOf]; omega
          · obtain rfl : m = j := by omega
            have HGT : Hid (∀ x, N[m]? = some x → nlt on x) := fun x hx => by
              have := (List.getElem?_eq_some_iff.1 hx).1
              omega
            clear hss
            have hown9 := HS2.out.own
            rw [HML.out] at hown9
            have hadr := own_addr hown9
            clear hown9
            have hsl1 := sl_head hadr (j := m) (by omega) (by have := hr2; omega)
            obtain ⟨at9, hsl2, hat⟩ := sl_tail hadr (j := m) (by omega)
            obtain ⟨t9, ht9⟩ : ∃ t9, m - m = t9 := ⟨_, rfl⟩
            obtain ⟨s9, hs9⟩ : ∃ s9, c - m = s9 := ⟨_, rfl⟩
            rw [ht9, hs9] at hsl2
            rw [ht9] at hat
            have HT9 : Hid _ := ht9
            have HHD : Hid (SS wr a m (N.take m)) := HSS.out.take m (by omega)
            have HTL : Hid (SS wr at9 t9 (N.drop m)) := by
              show SS _ _ _ _
              rcases hat with h0 | ⟨g9, e9, e8⟩
              · exact ⟨by rw [List.length_drop, HML.out, ht9], .inl h0⟩
              · have hss9 := HSS.out
                rw [e9] at hss9
                rw [← ht9]
                exact hss9.drop m (.inr e8)
            clear hadr hat ht9 hs9
            go_wp2_with fail
            refine wp_region_held_drew (S := fun _ => True) (by kernel_rfl) trivial (fun hHeld => ?_)
            have HB0 : Hid (Below wr.heap.size wr wr.drew) := (Below.refl _ _).drew
            refine wpAnyH_take (i := 1) (v := ?_) rfl (by kernel_rfl) (by kernel_rfl) (by kernel_rfl) (fun _ _ _ h => h) (Or.inl ⟨by rfl, ?_⟩) (by assumption) ?_
            rotate_left
            · (intro w hSw; (try dsimp only at hSw); go_simp; try with_reducible rfl)
            try simp only [List.getElem_toArray, List.getElem_cons_zero, List.getElem_cons_succ, Act.put, List.setIfInBounds_toArray, List.set_cons_zero, List.set_cons_succ]
            refine wpAnyH_take (i := 2) (v := ?_) rfl (by kernel_rfl) (by kernel_rfl) (by kernel_rfl) (fun _ _ _ h => h) (Or.inl ⟨by rfl, ?_⟩) (by assumption) ?_
            rotate_left
            · (intro w hSw; (try dsimp only at hSw); go_simp; try with_reducible rfl)
            try simp only [List.getElem_toArray, List.getElem_cons_zero, List.getElem_cons_succ, Act.put, List.setIfInBounds_toArray, List.set_cons_zero, List.set_cons_succ]
            refine wpAnyH_take (i := 3) (v := ?_) rfl (by kernel_rfl) (by kernel_rfl) (by kernel_rfl) (fun _ _ _ h => h) (Or.inl ⟨by rfl, ?_⟩) (by assumption) ?_
            rotate_left
            · (intro w hSw; (try dsimp only at hSw); go_simp; try with_reducible rfl)
            try simp only [List.getElem_toArray, List.getElem_cons_zero, List.getElem_cons_succ, Act.put, List.setIfInBounds_toArray, List.set_cons_zero, List.set_cons_succ]
            refine wpAnyH_take (i := 5) (v := ?_) rfl (by kernel_rfl) (by kernel_rfl) (by kernel_rfl) (fun _ _ _ h => h) (Or.inl ⟨by rfl, ?_⟩) (by assumption) ?_
            rotate_left
            · (intro w hSw; (try dsimp only at hSw); go_simp; try with_reducible rfl)
            try simp only [List.getElem_toArray, List.getElem_cons_zero, List.getElem_cons_succ, Act.put, List.setIfInBounds_toArray, List.set_cons_zero, List.set_cons_succ]
            refine wpAnyH_take (i := 8) (v := ?_) rfl (by kernel_rfl) (by kernel_rfl) (by kernel_rfl) (fun _ _ _ h => h) (Or.inl ⟨by rfl, ?_⟩) (by assumption) ?_
            rotate_left
            · (intro w hSw; (try dsimp only at hSw); go_simp; try with_reducible rfl)
            try simp only [List.getElem_toArray, List.getElem_cons_zero, List.getElem_cons_succ, Act.put, List.setIfInBounds_toArray, List.set_cons_zero, List.set_cons_succ]
            refine wpAnyH_take (i := 9) (v := ?_) rfl (by kernel_rfl) (by kernel_rfl) (by kernel_rfl) (fun _ _ _ h => h) (Or.inl ⟨by rfl, ?_⟩) (by assumption) ?_
            rotate_left
            · (intro w hSw; (try dsimp only at hSw); go_simp; try with_reducible rfl)
            try simp only [List.getElem_toArray, List.getElem_cons_zero, List.getElem_cons_succ, Act.put, List.setIfInBounds_toArray, List.set_cons_zero, List.set_cons_succ]
            refine wpAnyH_take (i := 10) (v := ?_) rfl (by kernel_rfl) (by kernel_rfl) (by kernel_rfl) (fun _ _ _ h => h) (Or.inl ⟨by rfl, ?_⟩) (by assumption) ?_
            rotate_left
            · (intro w hSw; (try dsimp only at hSw); go_simp; try with_reducible rfl)
            try simp only [List.getElem_toArray, List.getElem_cons_zero, List.getElem_cons_succ, Act.put, List.setIfInBounds_toArray, List.set_cons_zero, List.set_cons_succ]
            refine wpAnyH_ready (rs := [0, 6]) (by kernel_rfl) (by simp) ?_
            refine AllReadyH.cons (o := _) rfl (fun K hK => ?_) (AllReadyH.cons (o := _) rfl (fun K hK => ?_) AllReadyH.nil)
            · skip
              go_simp
              have HBe0 : Hid (Below wr.heap.size wr (wr.drew.alloc (.cells #[] 9))) := HB0.out.alloc (by have := HB0.out.size; first | omega | (simp; omega) | simp) _
              have HE : Hid ((wr.drew.alloc (.cells #[] 9)).ownsRow wr.heap.size 9 1 (.slice (some ⟨wr.heap.size, 0, none⟩) 0 0) ([] : List ByteArray).length (([] : List ByteArray).map Value.string)) := by
                have h9 := empty_s wr.drew wr.heap.size HB0.out.size
                rw [show wr.drew.heap.size = wr.heap.size from by first | rfl | simp] at h9
                exact h9
              refine hK.out _ _ trivial (fun hHeld2 => ?_)
              clear hK K hHeld
              have hHeld := hHeld2
              clear hHeld2
              try simp only [List.getElem_toArray, List.getElem_cons_zero, List.getElem_cons_succ, Act.put, List.setIfInBounds_toArray, List.set_cons_zero, List.set_cons_succ]
              refine wpAnyH_ready (rs := [4, 6]) (by kernel_rfl) (by simp) ?_
              refine AllReadyH.cons (o := _) rfl (fun K hK => ?_) (AllReadyH.cons (o := _) rfl (fun K hK => ?_) AllReadyH.nil)
              · skip
                obtain ⟨b1, d1, V1, r1, ow1, gr1⟩ := run_append_ss _ wr.heap.size _ [] HE.out _ m c (N.take m) (HHD.out.below HBe0.out) (by simp; omega) HBe0.out.size
                simp only [List.length_nil, Nat.zero_add, List.nil_append] at r1 ow1
                have HB1 : Hid (Below wr.heap.size wr V1) := HBe0.out.grown gr1 HBe0.out.size (fun q hq => (World.ownsRow.lt HE.out q hq).1)
                have OW1 : Hid (V1.ownsRow wr.heap.size 9 1 (.slice b1 m d1) (N.take m).length ((N.take m).map Value.string)) := ow1
                refine wp_append_run _ _ 53 rfl _ _ rfl rfl _ r1 ?_
                clear r1 ow1 gr1
                refine hK.out _ _ trivial (fun hHeld2 => ?_)
                clear hK K hHeld
                have hHeld := hHeld2
                clear hHeld2
                try simp only [List.getElem_toArray, List.getElem_cons_zero, List.getElem_cons_succ, Act.put, List.setIfInBounds_toArray, List.set_cons_zero, List.set_cons_succ]
                refine wpAnyH_ready (rs := [6]) (by kernel_rfl) (by simp) ?_
                refine AllReadyH.cons (o := _) rfl (fun K hK => ?_) AllReadyH.nil
                go_simp
                have HBo1 : Hid (Below wr.heap.size wr (V1.alloc (.cells #[.string on] 9))) := HB1.out.alloc (by have := HB1.out.size; first | omega | (simp; omega) | simp) _
                have HO : Hid (SS (V1.alloc (.cells #[.string on] 9)) (some ⟨V1.heap.size, 0, none⟩) 1 [on]) := by
                  have h9 := ss_one V1 on
                  rw [show V1.heap.size = V1.heap.size from by first | rfl | simp] at h9
                  exact h9
                have OW1b : Hid ((V1.alloc (.cells #[.string on] 9)).ownsRow wr.heap.size 9 1 (.slice b1 m d1) (N.take m).length ((N.take m).map Value.string)) := own_below OW1.out (below1 _ _)
                refine hK.out _ _ trivial (fun hHeld2 => ?_)
                clear hK K hHeld
                have hHeld := hHeld2
                clear hHeld2
                try simp only [List.getElem_toArray, List.getElem_cons_zero, List.getElem_cons_succ, Act.put, List.setIfInBounds_toArray, List.set_cons_zero, List.set_cons_succ]
                refine wpAnyH_ready (rs := [7]) (by kernel_rfl) (by simp) ?_
                refine AllReadyH.cons (o := _) rfl (fun K hK => ?_) AllReadyH.nil
                obtain ⟨b2, d2, V2, r2, ow2, gr2⟩ := run_append_ss _ wr.heap.size _ (N.take m) OW1b.out _ 1 1 [on] HO.out (by rw [List.length_take]; omega) HBo1.out.size
                have htl : (N.take m).length = m := by rw [List.length_take, HML.out]; omega
                have HB2 : Hid (Below wr.heap.size wr V2) := HBo1.out.grown gr2 HBo1.out.size (fun q hq => (World.ownsRow.lt OW1b.out q hq).1)
                rw [htl] at r2 ow2
                have OW2 : Hid (V2.ownsRow wr.heap.size 9 1 (.slice b2 (m + 1) d2) (N.take m ++ [on]).length ((N.take m ++ [on]).map Value.string)) := ow2
                refine wp_append_run _ _ 53 rfl _ _ rfl rfl _ r2 ?_
                clear r2 ow2 gr2 htl
                refine hK.out _ _ trivial (fun hHeld2 => ?_)
                clear hK K hHeld
                have hHeld := hHeld2
                clear hHeld2
                try simp only [List.getElem_toArray, List.getElem_cons_zero, List.getElem_cons_succ, Act.put, List.setIfInBounds_toArray, List.set_cons_zero, List.set_cons_succ]
                refine wpAnyH_ready (rs := [11]) (by kernel_rfl) (by simp) ?_
                refine AllReadyH.cons (o := _) rfl (fun K hK => ?_) AllReadyH.nil
                obtain ⟨b3, d3, V3, r3, ow3, gr3⟩ := run_append_ss _ wr.heap.size _ (N.take m ++ [on]) OW2.out _ t9 s9 (N.drop m) (HTL.out.below HB2.out) (by have := HT9.out; rw [List.length_append, List.length_take]; simp only [List.length_cons, List.length_nil]; omega) HB2.out.size
                have htl : (N.take m ++ [on]).length = m + 1 := by rw [List.length_append, List.length_take, HML.out]; first | (simp; done) | (simp; omega)
                have HB3 : Hid (Below wr.heap.size wr V3) := HB2.out.grown gr3 HB2.out.size (fun q hq => (World.ownsRow.lt OW2.out q hq).1)
                rw [htl, show m + 1 + t9 = m + 1 from by have := HT9.out; omega] at r3 ow3
                have OW3 : Hid (V3.ownsRow w.heap.size 9 1 (.slice b3 (m + 1) d3) (N.take m ++ [on] ++ N.drop m).length ((N.take m ++ [on] ++ N.drop m).map Value.string)) := own_base ow3 HS2.out.bel.size
                refine wp_append_run _ _ 53 rfl _ _ rfl rfl _ r3 ?_
                clear r3 ow3 gr3 htl
                refine hK.out _ _ trivial (fun hHeld2 => ?_)
                clear hK K hHeld
                have hHeld := hHeld2
                clear hHeld2
                try simp only [List.getElem_toArray, List.getElem_cons_zero, List.getElem_cons_succ, Act.put, List.setIfInBounds_toArray, List.set_cons_zero, List.set_cons_succ]
                refine wpAnyH_take (i := 12) (v := ?_) rfl (by kernel_rfl) (by kernel_rfl) (by kernel_rfl) (fun _ _ _ h => h) (Or.inl ⟨by rfl, ?_⟩) (by assumption) ?_
                rotate_left
                · (intro w hSw; (try dsimp only at hSw); go_simp; try with_reducible rfl)
                try simp only [List.getElem_toArray, List.getElem_cons_zero, List.getElem_cons_succ, Act.put, List.setIfInBounds_toArray, List.set_cons_zero, List.set_cons_succ]
                refine wpAnyH_done (by kernel_rfl) ?_ _
                clear hHeld
                have HS9 : Hid (NmS w V3 (.slice b3 (m + 1) d3) (N.take m ++ [on] ++ N.drop m) (namesOf kind (rs.take (k + 1)))) := ⟨OW3.out, ins_pair HS2.out.up HLT.out HGT.out, fun x => by rw [ins_mem, HSN2.out x, HS2.out.mem x], HS2.out.bel.trans (HB3.out.mono HS2.out.bel.size)⟩
                have HLN : Hid ((N.take m ++ [on] ++ N.drop m).length = m + 1) := by
                  show _ = _
                  have := HML.out
                  simp only [List.length_append, List.length_take, List.length_drop, List.length_cons, List.length_nil]; omega
                go_wp2_with fail
                rw [← HLN.out] at HS9 ⊢
                go_roundw
                case rel => exact ⟨k + 1, _, b3, d3, by omega, by go_num, by rfl, by have := HLN.out; omega, HS9⟩
                case measure => simp [intOf]; omega
              · skip
                go_simp
                have HBo0 : Hid (Below wr.heap.size wr ((wr.drew.alloc (.cells #[] 9)).alloc (.cells #[.string on] 9))) := HBe0.out.alloc (by have := HBe0.out.size; first | omega | (simp; omega) | simp) _
                have HO : Hid (SS ((wr.drew.alloc (.cells #[] 9)).alloc (.cells #[.string on] 9)) (some ⟨wr.heap.size + 1, 0, none⟩) 1 [on]) := by
                  have h9 := ss_one (wr.drew.alloc (.cells #[] 9)) on
                  rw [show (wr.drew.alloc (.cells #[] 9)).heap.size = wr.heap.size + 1 from by first | rfl | simp] at h9
                  exact h9
                have HE2 : Hid (((wr.drew.alloc (.cells #[] 9)).alloc (.cells #[.string on] 9)).ownsRow wr.heap.size 9 1 (.slice (some ⟨wr.heap.size, 0, none⟩) 0 0) ([] : List ByteArray).length (([] : List ByteArray).map Value.string)) := own_below HE.out (below1 _ _)
                refine hK.out _ _ trivial (fun hHeld2 => ?_)
                clear hK K hHeld
                have hHeld := hHeld2
                clear hHeld2
                try simp only [List.getElem_toArray, List.getElem_cons_zero, List.getElem_cons_succ, Act.put, List.setIfInBounds_toArray, List.set_cons_zero, List.set_cons_succ]
                refine wpAnyH_ready (rs := [4]) (by kernel_rfl) (by simp) ?_
                refine AllReadyH.cons (o := _) rfl (fun K hK => ?_) AllReadyH.nil
                obtain ⟨b1, d1, V1, r1, ow1, gr1⟩ := run_append_ss _ wr.heap.size _ [] HE2.out _ m c (N.take m) (HHD.out.below HBo0.out) (by simp; omega) HBo0.out.size
                simp only [List.length_nil, Nat.zero_add, List.nil_append] at r1 ow1
                have HB1 : Hid (Below wr.heap.size wr V1) := HBo0.out.grown gr1 HBo0.out.size (fun q hq => (World.ownsRow.lt HE2.out q hq).1)
                have OW1 : Hid (V1.ownsRow wr.heap.size 9 1 (.slice b1 m d1) (N.take m).length ((N.take m).map Value.string)) := ow1
                refine wp_append_run _ _ 53 rfl _ _ rfl rfl _ r1 ?_
                have HO3 : Hid (SS V1 (some ⟨wr.heap.size + 1, 0, none⟩) 1 [on]) := ss_grown HO.out gr1 (fun g hg => by cases hg; simp [Value.ownBlock]; try omega) ⟨_, rfl⟩
                clear r1 ow1 gr1
                refine hK.out _ _ trivial (fun hHeld2 => ?_)
                clear hK K hHeld
                have hHeld := hHeld2
                clear hHeld2
                try simp only [List.getElem_toArray, List.getElem_cons_zero, List.getElem_cons_succ, Act.put, List.setIfInBounds_toArray, List.set_cons_zero, List.set_cons_succ]
                refine wpAnyH_ready (rs := [7]) (by kernel_rfl) (by simp) ?_
                refine AllReadyH.cons (o := _) rfl (fun K hK => ?_) AllReadyH.nil
                obtain ⟨b2, d2, V2, r2, ow2, gr2⟩ := run_append_ss _ wr.heap.size _ (N.take m) OW1.out _ 1 1 [on] HO3.out (by rw [List.length_take]; omega) HB1.out.size
                have htl : (N.take m).length = m := by rw [List.length_take, HML.out]; omega
                have HB2 : Hid (Below wr.heap.size wr V2) := HB1.out.grown gr2 HB1.out.size (fun q hq => (World.ownsRow.lt OW1.out q hq).1)
                rw [htl] at r2 ow2
                have OW2 : Hid (V2.ownsRow wr.heap.size 9 1 (.slice b2 (m + 1) d2) (N.take m ++ [on]).length ((N.take m ++ [on]).map Value.string)) := ow2
                refine wp_append_run _ _ 53 rfl _ _ rfl rfl _ r2 ?_
                clear r2 ow2 gr2 htl
                refine hK.out _ _ trivial (fun hHeld2 => ?_)
                clear hK K hHeld
                have hHeld := hHeld2
                clear hHeld2
                try simp only [List.getElem_toArray, List.getElem_cons_zero, List.getElem_cons_succ, Act.put, List.setIfInBounds_toArray, List.set_cons_zero, List.set_cons_succ]
                refine wpAnyH_ready (rs := [11]) (by kernel_rfl) (by simp) ?_
                refine AllReadyH.cons (o := _) rfl (fun K hK => ?_) AllReadyH.nil
                obtain ⟨b3, d3, V3, r3, ow3, gr3⟩ := run_append_ss _ wr.heap.size _ (N.take m ++ [on]) OW2.out _ t9 s9 (N.drop m) (HTL.out.below HB2.out) (by have := HT9.out; rw [List.length_append, List.length_take]; simp only [List.length_cons, List.length_nil]; omega) HB2.out.size
                have htl : (N.take m ++ [on]).length = m + 1 := by rw [List.length_append, List.length_take, HML.out]; first | (simp; done) | (simp; omega)
                have HB3 : Hid (Below wr.heap.size wr V3) := HB2.out.grown gr3 HB2.out.size (fun q hq => (World.ownsRow.lt OW2.out q hq).1)
                rw [htl, show m + 1 + t9 = m + 1 from by have := HT9.out; omega] at r3 ow3
                have OW3 : Hid (V3.ownsRow w.heap.size 9 1 (.slice b3 (m + 1) d3) (N.take m ++ [on] ++ N.drop m).length ((N.take m ++ [on] ++ N.drop m).map Value.string)) := own_base ow3 HS2.out.bel.size
                refine wp_append_run _ _ 53 rfl _ _ rfl rfl _ r3 ?_
                clear r3 ow3 gr3 htl
                refine hK.out _ _ trivial (fun hHeld2 => ?_)
                clear hK K hHeld
                have hHeld := hHeld2
                clear hHeld2
                try simp only [List.getElem_toArray, List.getElem_cons_zero, List.getElem_cons_succ, Act.put, List.setIfInBounds_toArray, List.set_cons_zero, List.set_cons_succ]
                refine wpAnyH_take (i := 12) (v := ?_) rfl (by kernel_rfl) (by kernel_rfl) (by kernel_rfl) (fun _ _ _ h => h) (Or.inl ⟨by rfl, ?_⟩) (by assumption) ?_
                rotate_left
                · (intro w hSw; (try dsimp only at hSw); go_simp; try with_reducible rfl)
                try simp only [List.getElem_toArray, List.getElem_cons_zero, List.getElem_cons_succ, Act.put, List.setIfInBounds_toArray, List.set_cons_zero, List.set_cons_succ]
                refine wpAnyH_done (by kernel_rfl) ?_ _
                clear hHeld
                have HS9 : Hid (NmS w V3 (.slice b3 (m + 1) d3) (N.take m ++ [on] ++ N.drop m) (namesOf kind (rs.take (k + 1)))) := ⟨OW3.out, ins_pair HS2.out.up HLT.out HGT.out, fun x => by rw [ins_mem, HSN2.out x, HS2.out.mem x], HS2.out.bel.trans (HB3.out.mono HS2.out.bel.size)⟩
                have HLN : Hid ((N.take m ++ [on] ++ N.drop m).length = m + 1) := by
                  show _ = _
                  have := HML.out
                  simp only [List.length_append, List.length_take, List.length_drop, List.length_cons, List.length_nil]; omega
                go_wp2_with fail
                rw [← HLN.out] at HS9 ⊢
                go_roundw
                case rel => exact ⟨k + 1, _, b3, d3, by omega, by go_num, by rfl, by have := HLN.out; omega, HS9⟩
                case measure => simp [intOf]; omega
            · skip
              go_simp
              have HBo0 : Hid (Below wr.heap.size wr (wr.drew.alloc (.cells #[.string on] 9))) := HB0.out.alloc (by have := HB0.out.size; first | omega | (simp; omega) | simp) _
              have HO : Hid (SS (wr.drew.alloc (.cells #[.string on] 9)) (some ⟨wr.heap.size, 0, none⟩) 1 [on]) := by
                have h9 := ss_one wr.drew on
                rw [show wr.drew.heap.size = wr.heap.size from by first | rfl | simp] at h9
                exact h9
              refine hK.out _ _ trivial (fun hHeld2 => ?_)
              clear hK K hHeld
              have hHeld := hHeld2
              clear hHeld2
              try simp only [List.getElem_toArray, List.getElem_cons_zero, List.getElem_cons_succ, Act.put, List.setIfInBounds_toArray, List.set_cons_zero, List.set_cons_succ]
              refine wpAnyH_ready (rs := [0]) (by kernel_rfl) (by simp) ?_
              refine AllReadyH.cons (o := _) rfl (fun K hK => ?_) AllReadyH.nil
              go_simp
              have HBe0 : Hid (Below wr.heap.size wr ((wr.drew.alloc (.cells #[.string on] 9)).alloc (.cells #[] 9))) := HBo0.out.alloc (by have := HBo0.out.size; first | omega | (simp; omega) | simp) _
              have HE : Hid (((wr.drew.alloc (.cells #[.string on] 9)).alloc (.cells #[] 9)).ownsRow wr.heap.size 9 1 (.slice (some ⟨wr.heap.size + 1, 0, none⟩) 0 0) ([] : List ByteArray).length (([] : List ByteArray).map Value.string)) := by
                have h9 := empty_s (wr.drew.alloc (.cells #[.string on] 9)) wr.heap.size HBo0.out.size
                rw [show (wr.drew.alloc (.cells #[.string on] 9)).heap.size = wr.heap.size + 1 from by first | rfl | simp] at h9
                exact h9
              have HO2 : Hid (SS ((wr.drew.alloc (.cells #[.string on] 9)).alloc (.cells #[] 9)) (some ⟨wr.heap.size, 0, none⟩) 1 [on]) := HO.out.below (below1 _ _)
              refine hK.out _ _ trivial (fun hHeld2 => ?_)
              clear hK K hHeld
              have hHeld := hHeld2
              clear hHeld2
              try simp only [List.getElem_toArray, List.getElem_cons_zero, List.getElem_cons_succ, Act.put, List.setIfInBounds_toArray, List.set_cons_zero, List.set_cons_succ]
              refine wpAnyH_ready (rs := [4]) (by kernel_rfl) (by simp) ?_
              refine AllReadyH.cons (o := _) rfl (fun K hK => ?_) AllReadyH.nil
              obtain ⟨b1, d1, V1, r1, ow1, gr1⟩ := run_append_ss _ wr.heap.size _ [] HE.out _ m c (N.take m) (HHD.out.below HBe0.out) (by simp; omega) HBe0.out.size
              simp only [List.length_nil, Nat.zero_add, List.nil_append] at r1 ow1
              have HB1 : Hid (Below wr.heap.size wr V1) := HBe0.out.grown gr1 HBe0.out.size (fun q hq => (World.ownsRow.lt HE.out q hq).1)
              have OW1 : Hid (V1.ownsRow wr.heap.size 9 1 (.slice b1 m d1) (N.take m).length ((N.take m).map Value.string)) := ow1
              refine wp_append_run _ _ 53 rfl _ _ rfl rfl _ r1 ?_
              have HO3 : Hid (SS V1 (some ⟨wr.heap.size, 0, none⟩) 1 [on]) := ss_grown HO2.out gr1 (fun g hg => by cases hg; simp [Value.ownBlock]; try omega) ⟨_, rfl⟩
              clear r1 ow1 gr1
              refine hK.out _ _ trivial (fun hHeld2 => ?_)
              clear hK K hHeld
              have hHeld := hHeld2
              clear hHeld2
              try simp only [List.getElem_toArray, List.getElem_cons_zero, List.getElem_cons_succ, Act.put, List.setIfInBounds_toArray, List.set_cons_zero, List.set_cons_succ]
              refine wpAnyH_ready (rs := [7]) (by kernel_rfl) (by simp) ?_
              refine AllReadyH.cons (o := _) rfl (fun K hK => ?_) AllReadyH.nil
              obtain ⟨b2, d2, V2, r2, ow2, gr2⟩ := run_append_ss _ wr.heap.size _ (N.take m) OW1.out _ 1 1 [on] HO3.out (by rw [List.length_take]; omega) HB1.out.size
              have htl : (N.take m).length = m := by rw [List.length_take, HML.out]; omega
              have HB2 : Hid (Below wr.heap.size wr V2) := HB1.out.grown gr2 HB1.out.size (fun q hq => (World.ownsRow.lt OW1.out q hq).1)
              rw [htl] at r2 ow2
              have OW2 : Hid (V2.ownsRow wr.heap.size 9 1 (.slice b2 (m + 1) d2) (N.take m ++ [on]).length ((N.take m ++ [on]).map Value.string)) := ow2
              refine wp_append_run _ _ 53 rfl _ _ rfl rfl _ r2 ?_
              clear r2 ow2 gr2 htl
              refine hK.out _ _ trivial (fun hHeld2 => ?_)
              clear hK K hHeld
              have hHeld := hHeld2
              clear hHeld2
              try simp only [List.getElem_toArray, List.getElem_cons_zero, List.getElem_cons_succ, Act.put, List.setIfInBounds_toArray, List.set_cons_zero, List.set_cons_succ]
              refine wpAnyH_ready (rs := [11]) (by kernel_rfl) (by simp) ?_
              refine AllReadyH.cons (o := _) rfl (fun K hK => ?_) AllReadyH.nil
              obtain ⟨b3, d3, V3, r3, ow3, gr3⟩ := run_append_ss _ wr.heap.size _ (N.take m ++ [on]) OW2.out _ t9 s9 (N.drop m) (HTL.out.below HB2.out) (by have := HT9.out; rw [List.length_append, List.length_take]; simp only [List.length_cons, List.length_nil]; omega) HB2.out.size
              have htl : (N.take m ++ [on]).length = m + 1 := by rw [List.length_append, List.length_take, HML.out]; first | (simp; done) | (simp; omega)
              have HB3 : Hid (Below wr.heap.size wr V3) := HB2.out.grown gr3 HB2.out.size (fun q hq => (World.ownsRow.lt OW2.out q hq).1)
              rw [htl, show m + 1 + t9 = m + 1 from by have := HT9.out; omega] at r3 ow3
              have OW3 : Hid (V3.ownsRow w.heap.size 9 1 (.slice b3 (m + 1) d3) (N.take m ++ [on] ++ N.drop m).length ((N.take m ++ [on] ++ N.drop m).map Value.string)) := own_base ow3 HS2.out.bel.size
              refine wp_append_run _ _ 53 rfl _ _ rfl rfl _ r3 ?_
              clear r3 ow3 gr3 htl
              refine hK.out _ _ trivial (fun hHeld2 => ?_)
              clear hK K hHeld
              have hHeld := hHeld2
              clear hHeld2
              try simp only [List.getElem_toArray, List.getElem_cons_zero, List.getElem_cons_succ, Act.put, List.setIfInBounds_toArray, List.set_cons_zero, List.set_cons_succ]
              refine wpAnyH_take (i := 12) (v := ?_) rfl (by kernel_rfl) (by kernel_rfl) (by kernel_rfl) (fun _ _ _ h => h) (Or.inl ⟨by rfl, ?_⟩) (by assumption) ?_
              rotate_left
              · (intro w hSw; (try dsimp only at hSw); go_simp; try with_reducible rfl)
              try simp only [List.getElem_toArray, List.getElem_cons_zero, List.getElem_cons_succ, Act.put, List.setIfInBounds_toArray, List.set_cons_zero, List.set_cons_succ]
              refine wpAnyH_done (by kernel_rfl) ?_ _
              clear hHeld
              have HS9 : Hid (NmS w V3 (.slice b3 (m + 1) d3) (N.take m ++ [on] ++ N.drop m) (namesOf kind (rs.take (k + 1)))) := ⟨OW3.out, ins_pair HS2.out.up HLT.out HGT.out, fun x => by rw [ins_mem, HSN2.out x, HS2.out.mem x], HS2.out.bel.trans (HB3.out.mono HS2.out.bel.size)⟩
              have HLN : Hid ((N.take m ++ [on] ++ N.drop m).length = m + 1) := by
                show _ = _
                have := HML.out
                simp only [List.length_append, List.length_take, List.length_drop, List.length_cons, List.length_nil]; omega
              go_wp2_with fail
              rw [← HLN.out] at HS9 ⊢
              go_roundw
              case rel => exact ⟨k + 1, _, b3, d3, by omega, by go_num, by rfl, by have := HLN.out; omega, HS9⟩
              case measure => simp [intOf]; omega
      · have he : (o.k == kind) = false := by simp [hkd]
        have HS3 : Hid (NmS w wr (.slice a N.length c) N (namesOf kind (rs.take (k + 1)))) := by
          show NmS _ _ _ _ _
          rw [HSN.out, if_neg hkd]; exact HS.out
        clear hkd HSN
        generalize o.n = on at *
        generalize o.k = ok at *
        go_wp2_with fail
        go_roundw
        case rel => exact ⟨k + 1, N, a, c, by omega, by go_num, rfl, by omega, HS3⟩
        case measure => simp [intOf]; omega
    · obtain rfl : n2 = k := by omega
      have HF : Hid (N = srt (namesOf kind rs)) := by
        have hm := HS.out.mem
        rw [List.take_of_length_le (by omega)] at hm
        exact sorted_eq HS.out.up (srt_pair (namesOf_nodup kind rs)) (fun x => by rw [hm x, srt_mem])
      go_wp2
      go_ret
      exact ⟨_, rfl, by rw [← HF.out]; exact HS.out.own, HS.out.bel⟩
end Go.Proofs.Ythejehbhjkmeeaa
