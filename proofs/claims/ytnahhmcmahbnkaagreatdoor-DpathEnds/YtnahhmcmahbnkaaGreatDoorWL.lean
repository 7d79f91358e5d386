/- dpath.rowsOf of flows without terms. Conditions: what becomes of each flow is given; their names are apart. -/
import Derived.Test.YtnahhmcmahbnkaaGreatDoorGVAtoWK
import Derived.Deep.DeepMust
import Derived.Deep.RegionHeld
import Derived.Lib.Hide
namespace Go.Proofs.YtnahhmcmahbnkaaGreatDoor
open Go.RowKit
/-- Some rows of a Program under way. -/
structure Rws (w : World) (T P : Nat → Int) (N : Nat → ByteArray) (R : Nat → Nat → World → Value → Prop) (k : Nat) (b : Nat → Nat) (W : World) : Prop where
  map : W.heap[w.heap.size]? = some (.map (entG sv ((List.range k).map fun i => (N i, Value.pointer (some ⟨b i, 0, none⟩), i))).toArray k)
  rows : ∀ i, i < k → ∃ ac B, W.heap[b i]? = some (.cells (rwC (T i) (P i) (.slice none 0 0) ac ⟨#[]⟩) 84 (0, 0)) ∧ w.heap.size < b i ∧ w.heap.size < B ∧ R i B W ac
  below : Below w.heap.size w W
theorem Rws.next {w W W' : World} {T P : Nat → Int} {N : Nat → ByteArray} {R : Nat → Nat → World → Value → Prop} {k : Nat} {b : Nat → Nat} (h : Rws w T P N R k b W) (hb : Below W.heap.size W W') (hR : ∀ i, Ac.Lasts (R i)) : Rws w T P N R k b W' :=
  ⟨(hb.block _ (lt_of_heap h.map)).trans h.map, fun i hi => by
    obtain ⟨ac, B, r1, r2, r3, r4⟩ := h.rows i hi
    exact ⟨ac, B, (hb.block _ (lt_of_heap r1)).trans r1, r2, r3, hR i B W W' ac r4 hb.size (fun k _ hk => hb.block k hk)⟩, h.below.trans (hb.mono h.below.size)⟩
theorem size5w : (Tryz.prog.info? 84).map (·.size) = some 5 := by kernel_rfl
theorem build_row (t p : Int) (a : Option Addr) (m k : Nat) (tx : ByteArray) : Tryz.prog.built 84 [(0, .agg (flC t p (.slice none 0 0) (.slice a m k))), (1, .string tx)] = some (rwC t p (.slice none 0 0) (.slice a m k) tx) := by kernel_rfl
theorem zero_flow : (Tryz.prog.info? 52).map (·.size) = some 4 := size4
theorem zero_pdrow (W : World) : (zeroValue 73).run Tryz.prog W = .ok (.pointer none) W := by first | kernel_rfl | simp [zeroValue, go_sem]
theorem neq_pdrow0 (W : World) : (binOp .neq 73 (.pointer none) (.pointer none)).run Tryz.prog W = .ok (.bool false) W := by first | kernel_rfl | simp [binOp, go_sem]
theorem find_range (N : Nat → ByteArray) (b : Nat → Nat) (k : Nat) (hd : ∀ i, i < k → N i ≠ N k) : findG (N k) ((List.range k).map fun i => (N i, Value.pointer (some ⟨b i, 0, none⟩), i)) 0 = none := by
  have key : ∀ (l : List Nat) (s : Nat), (∀ i ∈ l, N i ≠ N k) → findG (N k) (l.map fun i => (N i, Value.pointer (some ⟨b i, 0, none⟩), i)) s = none := by
    intro l
    induction l with
    | nil => intro s _; rfl
    | cons x r ih =>
      intro s h
      show (if N k = N x then _ else _) = _
      rw [if_neg (fun e => h x (by simp) e.symm)]
      exact ih _ (fun i hi => h i (by simp [hi]))
  exact key _ 0 (fun i hi => hd i (by simpa using hi))
set_option linter.unusedSimpArgs false in
set_option maxRecDepth 100000 in
set_option maxHeartbeats 4000000 in
theorem rowsOf_list (g n c : Nat) (F : Array Value) (w : World) (hg : w.heap[g]? = some (.cells F 52 (0, 0))) (hn : n * 4 ≤ F.size) (hm : n ≤ 65536) (T P : Nat → Int) (A : Nat → Option Addr) (M K : Nat → Nat) (N : Nat → ByteArray) (R : Nat → Nat → World → Value → Prop) (hR : ∀ i, Ac.Lasts (R i))
    (hF : ∀ i, i < n → F.extract (i * 4) (i * 4 + 4) = flC (T i) (P i) (.slice none 0 0) (.slice (A i) (M i) (K i)))
    (hchk : ∀ i, i < n → ∀ W, Below w.heap.size w W → Calls Tryz.prog 24 #[.agg (flC (T i) (P i) (.slice none 0 0) (.slice (A i) (M i) (K i)))] W fun e w' => e = .returned (.int .i64 0) ∧ Below W.heap.size W w')
    (hcopy : ∀ i, i < n → ∀ W, Below w.heap.size w W → Calls Tryz.prog 23 #[.agg (flC (T i) (P i) (.slice none 0 0) (.slice (A i) (M i) (K i)))] W fun e w' => ∃ a' m' k' B, W.heap.size + 2 ≤ B ∧ e = .returned (.agg (flC (T i) (P i) (.slice none 0 0) (.slice a' m' k'))) ∧ R i B w' (.slice a' m' k') ∧ Below W.heap.size W w')
    (hname : ∀ i, i < n → ∀ W b ac, W.heap[b]? = some (.cells (rwC (T i) (P i) (.slice none 0 0) ac ⟨#[]⟩) 84 (0, 0)) → Calls Tryz.prog 26 #[.pointer (some ⟨b, 0, none⟩)] W fun e w' => e = .returned (.string (N i)) ∧ ∃ q, w' = W.drewN q)
    (hd : ∀ i j, i < j → j < n → N i ≠ N j) :
    Calls Tryz.prog 12 #[.slice (some ⟨g, 0, none⟩) n c] w fun e w' => e = .returned (.tuple #[.map (some w.heap.size), .int .i64 0]) ∧ ∃ b, Rws w T P N R n b w' := by
  have hmm := run_makeRows
  have hmI : ¬ (65536 : Int) < (n : Int) := by omega
  have HGF : Hid _ := hg
  have HR : Hid _ := hR
  have HF : Hid _ := hF
  have HCH : Hid _ := hchk
  have HCP : Hid _ := hcopy
  have HNM : Hid _ := hname
  have HD : Hid _ := hd
  have HSZ : Hid (n * 4 ≤ F.size) := hn
  have hmn : (n : Int) ≤ 65536 := by omega
  clear hg hR hF hchk hcopy hname hd hn
  go_enter Tryz.func12, Tryz.ntmps12
  go_wp2_with fail
  have R0 : Hid (∃ b, Rws w T P N R 0 b (w.alloc (.map #[] 0))) := ⟨fun _ => 0, heap_alloc_new _ _, fun i hi => absurd hi (Nat.not_lt_zero _), below1 _ _⟩
  go_loopw [18] (fun i wr => ∃ k : Nat, i = .int .i64 k ∧ k ≤ n ∧ Hid (∃ b, Rws w T P N R k b wr)) (fun i _ => n - (intOf i).toNat)
  case atStart => exact ⟨0, rfl, Nat.zero_le _, R0.out⟩
  case round =>
    clear R0 hmm
    obtain ⟨k, rfl, hkn, hrw⟩ := hrel
    by_cases hlt : k < n
    · have hltI : (k : Int) < (n : Int) := by omega
      obtain ⟨b, hb⟩ := hrw.out
      have HRW : Hid (Rws w T P N R k b wr) := hb
      have GR : Hid (wr.heap[g]? = some (.cells F 52 (0, 0))) := (hb.below.block _ (lt_of_heap HGF.out)).trans HGF.out
      have HX : Hid (F.extract (k * 4) (k * 4 + 4) = (flC (T k) (P k) (.slice none 0 0) (.slice (A k) (M k) (K k)))) := HF.out k hlt
      have Z0 : Hid _ := heap_alloc_new wr (.cells #[.int .i64 0, .int .i64 0, .slice none 0 0, .slice none 0 0] 52)
      clear hb hrw
      go_wp2_with (first
        | refine Ac.wpList_load_as rfl 52 _ rfl g (k * 4) 4 rfl F (flC (T k) (P k) (.slice none 0 0) (.slice (A k) (M k) (K k))) 52 _ GR.out Tryz.underlying52 rfl HX.out rfl size4 ?_
        | refine wpList_store_row rfl 52 _ _ rfl wr.heap.size #[.int .i64 0, .int .i64 0, .slice none 0 0, .slice none 0 0] (flC (T k) (P k) (.slice none 0 0) (.slice (A k) (M k) (K k))) 52 rfl rfl Z0.out size4 rfl (by simp [Value.oneCell']) ?_
        | fail)
      intro W4 z1 z2 z3 z4
      have b4 : Below wr.heap.size wr W4 := (below1 wr _).trans z4
      have HRW4 : Hid (Rws w T P N R k b W4) := HRW.out.next b4 HR.out
      obtain ⟨b6, hb6⟩ : ∃ q, wr.heap.size = q := ⟨_, rfl⟩
      rw [hb6] at z1 ⊢
      have R4 : Hid _ := z1
      clear z1 z2 z3 z4 b4 Z0 GR HX HRW hb6
      go_wp2_with (first
        | refine wpList_load_row rfl 52 _ rfl b6 rfl 52 (flC (T k) (P k) (.slice none 0 0) (.slice (A k) (M k) (K k))) (0, 0) _ R4.out Tryz.underlying52 rfl size4 ?_
        | fail)
      refine Calls.mono (HCH.out k hlt W4 HRW4.out.below) ?_
      rintro e W5 ⟨rfl, hb5⟩
      have HRW5 : Hid (Rws w T P N R k b W5) := HRW4.out.next hb5 HR.out
      have R5 : Hid _ := (hb5.block _ (lt_of_heap R4.out)).trans R4.out
      clear hb5 HRW4 R4
      have KC : Hid (∀ W : World, W.heap[b6]? = some (.cells (flC (T k) (P k) (.slice none 0 0) (.slice (A k) (M k) (K k))) 52 (0, 0)) → W.heap[b6]? = some (.cells (flC (T k) (P k) (.slice none 0 0) (.slice (A k) (M k) (K k))) 52 (0, 0)) ∧ W.cell? ⟨b6, 2, none⟩ = some (.slice none 0 0)) := fun W h => ⟨h, cell_row h 2⟩
      go_wp2_with fail
      refine wp_region_held_drew (S := fun W : World => W.heap[b6]? = some (.cells (flC (T k) (P k) (.slice none 0 0) (.slice (A k) (M k) (K k))) 52 (0, 0)) ∧ W.cell? ⟨b6, 2, none⟩ = some (.slice none 0 0)) (by kernel_rfl) ?_ (fun hHeld => ?_)
      · exact KC.out _ R5.out
      refine wpAnyH_take (i := 0) (v := .agg (flC (T k) (P k) (.slice none 0 0) (.slice (A k) (M k) (K k)))) rfl (by kernel_rfl) (by kernel_rfl) (by kernel_rfl) (fun _ _ _ h => h) (yields_loadR (by rfl) 52 _ rfl b6 rfl 52 (flC (T k) (P k) (.slice none 0 0) (.slice (A k) (M k) (K k))) _ (fun _ h => h.1) Tryz.underlying52 rfl size4) (by assumption) ?_
      try simp only [List.getElem_toArray, List.getElem_cons_zero, List.getElem_cons_succ, Act.put, List.setIfInBounds_toArray, List.set_cons_zero, List.set_cons_succ]
      refine wpAnyH_take (i := 2) (v := ?_) rfl (by kernel_rfl) (by kernel_rfl) (by kernel_rfl) (fun _ _ _ h => h) (Or.inl ⟨by rfl, ?_⟩) (by assumption) ?_
      rotate_left
      · (intro w hSw; (try dsimp only at hSw); go_simp; try with_reducible rfl)
      try simp only [List.getElem_toArray, List.getElem_cons_zero, List.getElem_cons_succ, Act.put, List.setIfInBounds_toArray, List.set_cons_zero, List.set_cons_succ]
      refine wpAnyH_take (i := 3) (v := ?_) rfl (by kernel_rfl) (by kernel_rfl) (by kernel_rfl) (fun _ _ _ h => h) (Or.inl ⟨by rfl, ?_⟩) (by assumption) ?_
      rotate_left
      · (intro w hSw; (try dsimp only at hSw); go_simp; try with_reducible rfl)
      try simp only [List.getElem_toArray, List.getElem_cons_zero, List.getElem_cons_succ, Act.put, List.setIfInBounds_toArray, List.set_cons_zero, List.set_cons_succ]
      have HRW5d : Hid (Rws w T P N R k b W5.drew) := HRW5.out.next (Below.refl _ _).drew HR.out
      have R5d : Hid (W5.drew.heap[b6]? = some (.cells (flC (T k) (P k) (.slice none 0 0) (.slice (A k) (M k) (K k))) 52 (0, 0))) := R5.out
      clear HRW5 R5
      obtain ⟨V1, hV1⟩ : ∃ V, V = W5.drew := ⟨_, rfl⟩
      rw [← hV1] at HRW5d R5d ⊢
      clear hV1
      refine wpAnyH_ready (rs := [1]) (by kernel_rfl) (by simp) ?_
      refine AllReadyH.cons (o := _) rfl (fun K hK => ?_) AllReadyH.nil
      go_simp
      refine Calls.mono (HCP.out k hlt V1 HRW5d.out.below) ?_
      rintro e V2 ⟨xa, xm, xk, B, hB, rfl, hr2, hb2⟩
      have HRW6 : Hid (Rws w T P N R k b V2) := HRW5d.out.next hb2 HR.out
      have R6 : Hid _ := (hb2.block _ (lt_of_heap R5d.out)).trans R5d.out
      have HRB : Hid (R k B V2 (.slice xa xm xk) ∧ w.heap.size < B ∧ w.heap.size < V2.heap.size) := ⟨hr2, by have := HRW5d.out.below.size; omega, by have := lt_of_heap HRW5d.out.map; have := hb2.size; omega⟩
      clear hr2 hb2 hB HRW5d R5d
      go_wp2_with fail
      refine hK.out _ _ (KC.out _ R6.out) (fun hHeld2 => ?_)
      clear hK K hHeld
      have hHeld := hHeld2
      clear hHeld2
      try simp only [List.getElem_toArray, List.getElem_cons_zero, List.getElem_cons_succ, Act.put, List.setIfInBounds_toArray, List.set_cons_zero, List.set_cons_succ]
      refine wpAnyH_ready (rs := [4]) (by kernel_rfl) (by simp) ?_
      refine AllReadyH.cons (o := _) rfl (fun K hK => ?_) AllReadyH.nil
      go_simp
      refine Calls.mono (text_none (.slice none 0 0) V2 TV.nil) ?_
      rintro e V3 ⟨rfl, hb3⟩
      have HRW7 : Hid (Rws w T P N R k b V3) := HRW6.out.next hb3 HR.out
      have R7 : Hid _ := (hb3.block _ (lt_of_heap R6.out)).trans R6.out
      have HRB3 : Hid (R k B V3 (.slice xa xm xk) ∧ w.heap.size < B ∧ w.heap.size < V3.heap.size) := ⟨HR.out k B V2 V3 _ HRB.out.1 hb3.size (fun q _ hq => hb3.block q hq), HRB.out.2.1, Nat.lt_of_lt_of_le HRB.out.2.2 hb3.size⟩
      clear hb3 HRW6 R6 HRB
      go_wp2_with fail
      refine hK.out _ _ (KC.out _ R7.out) (fun hHeld2 => ?_)
      clear hK K hHeld
      have hHeld := hHeld2
      clear hHeld2
      try simp only [List.getElem_toArray, List.getElem_cons_zero, List.getElem_cons_succ, Act.put, List.setIfInBounds_toArray, List.set_cons_zero, List.set_cons_succ]
      refine wpAnyH_take (i := 5) (v := .agg (rwC (T k) (P k) (.slice none 0 0) (.slice xa xm xk) ⟨#[]⟩)) rfl (by kernel_rfl) (by kernel_rfl) (by kernel_rfl) (fun _ _ _ h => h) (yields_build (by rfl) 84 _ rfl _ (by rw [List.map_toArray]; exact build_row _ _ _ _ _ _)) (by assumption) ?_
      try simp only [List.getElem_toArray, List.getElem_cons_zero, List.getElem_cons_succ, Act.put, List.setIfInBounds_toArray, List.set_cons_zero, List.set_cons_succ]
      refine wpAnyH_ready (rs := [6]) (by kernel_rfl) (by simp) ?_
      refine AllReadyH.cons (o := _) rfl (fun K hK => ?_) AllReadyH.nil
      go_simp
      obtain ⟨V4, hV4⟩ : ∃ V, V = V3.alloc (.cells (rwC (T k) (P k) (.slice none 0 0) (.slice xa xm xk) ⟨#[]⟩) 84) := ⟨_, rfl⟩
      rw [← hV4]
      have b4 : Below V3.heap.size V3 V4 := by rw [hV4]; exact below1 _ _
      have HRW8 : Hid (Rws w T P N R k b V4) := HRW7.out.next b4 HR.out
      have R8 : Hid _ := (b4.block _ (lt_of_heap R7.out)).trans R7.out
      have Q8 : Hid (V4.heap[V3.heap.size]? = some (.cells (rwC (T k) (P k) (.slice none 0 0) (.slice xa xm xk) ⟨#[]⟩) 84 (0, 0))) := by show _ = _; rw [hV4]; exact heap_alloc_new _ _
      have HRB4 : Hid (R k B V4 (.slice xa xm xk) ∧ w.heap.size < B ∧ w.heap.size < V3.heap.size) := ⟨HR.out k B V3 V4 _ HRB3.out.1 b4.size (fun q _ hq => b4.block q hq), HRB3.out.2.1, HRB3.out.2.2⟩
      clear hV4 b4 HRW7 R7 HRB3
      obtain ⟨bk, hbk⟩ : ∃ q, V3.heap.size = q := ⟨_, rfl⟩
      rw [hbk] at Q8 HRB4 ⊢
      clear hbk
      refine hK.out _ _ (KC.out _ R8.out) (fun hHeld2 => ?_)
      clear hK K hHeld
      have hHeld := hHeld2
      clear hHeld2
      try simp only [List.getElem_toArray, List.getElem_cons_zero, List.getElem_cons_succ, Act.put, List.setIfInBounds_toArray, List.set_cons_zero, List.set_cons_succ]
      refine wpAnyH_take (i := 7) (v := ?_) rfl (by kernel_rfl) (by kernel_rfl) (by kernel_rfl) (fun _ _ _ h => h) (Or.inl ⟨by rfl, ?_⟩) (by assumption) ?_
      rotate_left
      · (intro w hSw; (try dsimp only at hSw); go_simp; try with_reducible rfl)
      try simp only [List.getElem_toArray, List.getElem_cons_zero, List.getElem_cons_succ, Act.put, List.setIfInBounds_toArray, List.set_cons_zero, List.set_cons_succ]
      clear hHeld
      refine wpAnyH_done (by kernel_rfl) ?_ _
      have HN : Hid _ := HNM.out k hlt V4 bk (.slice xa xm xk) Q8.out
      go_wp2_with fail
      refine Calls.mono HN.out ?_
      rintro e V5 ⟨rfl, q, hV5⟩
      have b5 : Below V4.heap.size V4 V5 := by rw [hV5]; exact ⟨rfl, rfl, rfl, Nat.le_refl _, fun _ _ => rfl⟩
      have HRW9 : Hid (Rws w T P N R k b V5) := HRW8.out.next b5 HR.out
      have Q9 : Hid _ := (b5.block _ (lt_of_heap Q8.out)).trans Q8.out
      have HRB5 : Hid (R k B V5 (.slice xa xm xk) ∧ w.heap.size < B ∧ w.heap.size < bk) := ⟨HR.out k B V4 V5 _ HRB4.out.1 b5.size (fun q _ hq => b5.block q hq), HRB4.out.2.1, HRB4.out.2.2⟩
      clear hV5 b5 HRW8 R8 Q8 HRB4 HN
      have hfn := find_range N b k (fun i hi => HD.out i k hi hlt)
      have HFN : Hid _ := hfn
      have hlk : (Instr.lookup 68 (.map (some w.heap.size)) (.string (N k)) false).run Tryz.prog V5 = .ok (.pointer none) V5 := by
        have := look_any strK Tryz.underlying68 (.pointer none) zero_pdrow HRW9.out.map (N k)
        simpa [hfn, sv] using this
      have hput : (Instr.mapUpdate 68 (.map (some w.heap.size)) (.string (N k)) (.pointer (some ⟨bk, 0, none⟩))).run Tryz.prog V5 = .ok () (putObj V5 w.heap.size (.map (entG sv ((List.range k).map (fun i => (N i, Value.pointer (some ⟨b i, 0, none⟩), i)) ++ [(N k, .pointer (some ⟨bk, 0, none⟩), k)])).toArray (k + 1))) := by
        have := put_new strK Tryz.underlying68 HRW9.out.map (N k) hfn (.pointer (some ⟨bk, 0, none⟩))
        simpa [sv] using this
      have hnq := neq_pdrow0
      clear hfn
      go_wp2_with (first
        | (refine wpList_plain rfl fun K hK => ?_; refine wp_mapUpdate 68 _ _ _ rfl _ _ _ rfl rfl rfl hput ?_; refine hK _ _ ?_)
        | fail)
      have HNEW : Hid (∃ b', Rws w T P N R (k + 1) b' (putObj V5 w.heap.size (.map (entG sv ((List.range k).map (fun i => (N i, Value.pointer (some ⟨b i, 0, none⟩), i)) ++ [(N k, .pointer (some ⟨bk, 0, none⟩), k)])).toArray (k + 1)))) := by
        have hl : (List.range k).map (fun i => (N i, Value.pointer (some ⟨b i, 0, none⟩), i)) ++ [(N k, Value.pointer (some ⟨bk, 0, none⟩), k)] = (List.range (k + 1)).map (fun i => (N i, Value.pointer (some ⟨if i = k then bk else b i, 0, none⟩), i)) := by
          rw [List.range_succ, List.map_append]
          congr 1
          · apply List.map_congr_left
            intro i hi
            have : i ≠ k := by have := List.mem_range.1 hi; omega
            simp [this]
          · simp
        have hlt5 : w.heap.size < V5.heap.size := lt_of_heap HRW9.out.map
        refine ⟨fun i => if i = k then bk else b i, ?_, fun i hi => ?_, HRW9.out.below.trans (putObj_below V5 _ _)⟩
        · rw [hl]; exact putObj_same hlt5 _
        · have lasts : ∀ i B v, w.heap.size < B → R i B V5 v → R i B (putObj V5 w.heap.size (.map (entG sv ((List.range k).map (fun i => (N i, Value.pointer (some ⟨b i, 0, none⟩), i)) ++ [(N k, .pointer (some ⟨bk, 0, none⟩), k)])).toArray (k + 1))) v := fun i B v hB hr => HR.out i B V5 _ v hr (by rw [putObj_size]; exact Nat.le_refl _) (fun q hq _ => putObj_other (r := w.heap.size) V5 (k := q) (by omega) (.map (entG sv ((List.range k).map (fun i => (N i, Value.pointer (some ⟨b i, 0, none⟩), i)) ++ [(N k, .pointer (some ⟨bk, 0, none⟩), k)])).toArray (k + 1)))
          by_cases hik : i = k
          · subst hik
            exact ⟨.slice xa xm xk, B, by rw [if_pos rfl, putObj_other V5 (by have := HRB5.out.2.2; omega)]; exact Q9.out, by rw [if_pos rfl]; exact HRB5.out.2.2, HRB5.out.2.1, lasts _ _ _ HRB5.out.2.1 HRB5.out.1⟩
          · obtain ⟨ac, B', r1, r2, r3, r4⟩ := HRW9.out.rows i (by omega)
            exact ⟨ac, B', by rw [if_neg hik, putObj_other V5 (by omega)]; exact r1, by rw [if_neg hik]; exact r2, r3, lasts _ _ _ r3 r4⟩
      go_roundw
      case rel => exact ⟨k + 1, by simp, by omega, HNEW.out⟩
      case measure => simp [intOf]; omega
    · have hkn2 : k = n := by omega
      subst hkn2
      obtain ⟨b, hb⟩ := hrw.out
      have HRW : Hid (Rws w T P N R k b wr) := hb
      have hnl : ¬ (k : Int) < (k : Int) := by omega
      clear hrw hb hlt
      go_wp2
      go_ret2
      exact ⟨rfl, b, HRW.out⟩
end Go.Proofs.YtnahhmcmahbnkaaGreatDoor
