/- dpath.New of flows without terms, each at a table of its own. Conditions: as said. -/
import Derived.Test.YtnahhmcmahbnkaaGreatDoorGVAtoWK
import Derived.Test.YtnahhmcmahbnkaaGreatDoorGXCtoXE
import Derived.Lib.Hide
namespace Go.Proofs.YtnahhmcmahbnkaaGreatDoor
open Go.RowKit Go.Shelf Go.Sort
/-- Where New is, the first k flows of the order laid. -/
structure NewI (V : World) (pb n : Nat) (T : Nat → Nat) (P : Nat → Int) (b : Nat → Nat) (ys : List Nat) (m : Nat) (o : Value) (k : Nat) (wr : World) (A : Array Value) : Prop where
  row : wr.heap[pb]? = some (.cells A 81 (0, 0))
  map : A[0]? = some (.map (some m))
  ord : A[1]? = some o
  laid : ∀ j, j < k → ∃ i cb, i < n ∧ ys[j]? = some (b i) ∧ A[2 + T i]? = some (.pointer (some ⟨cb, 0, none⟩)) ∧ Laid wr cb (P i) ((j : Int) + 1)
  free : ∀ i, i < n → (∀ j, j < k → ys[j]? ≠ some (b i)) → A[2 + T i]? = some (.pointer none)
  keep : ∀ g, g < V.heap.size → g ≠ pb → wr.heap[g]? = V.heap[g]?
  size : V.heap.size ≤ wr.heap.size
  out : wr.os = V.os ∧ wr.tape = V.tape ∧ wr.output = V.output
theorem NewI.step {V wr w' : World} {pb n : Nat} {T : Nat → Nat} {P : Nat → Int} {b : Nat → Nat} {ys : List Nat} {m : Nat} {o : Value} {k i cb : Nat} {A : Array Value} (h : NewI V pb n T P b ys m o k wr A) (hi : i < n) (hk : k < ys.length) (hy : ys[k]? = some (b i))
    (hT : ∀ i j, i < n → j < n → T i = T j → i = j) (_hb : ∀ i j, i < n → j < n → b i = b j → i = j) (hd : ys.Nodup) (hl : Laid w' cb (P i) ((k : Int) + 1))
    (hr : w'.heap[pb]? = some (.cells (A.setIfInBounds (2 + T i) (.pointer (some ⟨cb, 0, none⟩))) 81 (0, 0))) (hkeep : ∀ g, g < wr.heap.size → g ≠ pb → w'.heap[g]? = wr.heap[g]?) (hs : wr.heap.size ≤ w'.heap.size) (ho : w'.os = wr.os ∧ w'.tape = wr.tape ∧ w'.output = wr.output) :
    NewI V pb n T P b ys m o (k + 1) w' (A.setIfInBounds (2 + T i) (.pointer (some ⟨cb, 0, none⟩))) := by
  have hone : ∀ j, j < k → ys[j]? ≠ some (b i) := fun j hj e => by
    have hj' : j < ys.length := by omega
    have := (List.getElem?_inj hj' hd).1 (e.trans hy.symm)
    omega
  have hin : 2 + T i < A.size := by
    have := h.free i hi hone
    rcases Nat.lt_or_ge (2 + T i) A.size with h1 | h1
    · exact h1
    · rw [Array.getElem?_eq_none h1] at this; cases this
  refine ⟨hr, ?_, ?_, fun j hj => ?_, fun i' hi' hn => ?_, fun g hg hne => (hkeep g (Nat.lt_of_lt_of_le hg h.size) hne).trans (h.keep g hg hne), Nat.le_trans h.size hs, ⟨ho.1.trans h.out.1, ho.2.1.trans h.out.2.1, ho.2.2.trans h.out.2.2⟩⟩
  · rw [Array.getElem?_setIfInBounds_ne (by omega)]; exact h.map
  · rw [Array.getElem?_setIfInBounds_ne (by omega)]; exact h.ord
  · by_cases hjk : j = k
    · subst hjk
      exact ⟨i, cb, hi, hy, Array.getElem?_setIfInBounds_self_of_lt hin, hl⟩
    · obtain ⟨i', cb', h1, h2, h3, h4⟩ := h.laid j (by omega)
      have hne : i' ≠ i := fun e => by subst e; exact hone j (by omega) h2
      refine ⟨i', cb', h1, h2, ?_, h4.keep h.row hkeep⟩
      rw [Array.getElem?_setIfInBounds_ne (by intro e; exact hne (hT i' i h1 hi (by omega)))]; exact h3
  · have hne : i' ≠ i := fun e => by subst e; exact hn k (by omega) hy
    rw [Array.getElem?_setIfInBounds_ne (by intro e; exact hne (hT i' i hi' hi (by omega)))]
    exact h.free i' hi' (fun j hj => hn j (by omega))
theorem head_row (t p : Int) (ac : Value) : (rwC t p (.slice none 0 0) ac ⟨#[]⟩).extract 0 (0 + 4) = flC t p (.slice none 0 0) ac := rfl
set_option linter.unusedSimpArgs false in
set_option maxRecDepth 100000 in
set_option maxHeartbeats 8000000 in
theorem new_list (g n c : Nat) (F : Array Value) (w : World) (hg : w.heap[g]? = some (.cells F 52 (0, 0))) (hn : n * 4 ≤ F.size) (hm : n ≤ 65536) (hn1 : 1 ≤ n) (T : Nat → Nat) (P : Nat → Int) (A : Nat → Option Addr) (M K : Nat → Nat) (N : Nat → ByteArray) (R : Nat → Nat → World → Value → Prop) (hR : ∀ i, Ac.Lasts (R i))
    (hRs : ∀ i B W v, R i B W v → ∃ a m k, v = .slice a m k) (hT : ∀ i, i < n → T i < 64) (hTd : ∀ i j, i < n → j < n → T i = T j → i = j) (hP : ∀ i, i < n → 0 ≤ P i ∧ P i ≤ 65535)
    (hF : ∀ i, i < n → F.extract (i * 4) (i * 4 + 4) = flC (T i) (P i) (.slice none 0 0) (.slice (A i) (M i) (K i)))
    (hchk : ∀ i, i < n → ∀ W, Below w.heap.size w W → Calls Tryz.prog 24 #[.agg (flC (T i) (P i) (.slice none 0 0) (.slice (A i) (M i) (K i)))] W fun e w' => e = .returned (.int .i64 0) ∧ Below W.heap.size W w')
    (hcopy : ∀ i, i < n → ∀ W, Below w.heap.size w W → Calls Tryz.prog 23 #[.agg (flC (T i) (P i) (.slice none 0 0) (.slice (A i) (M i) (K i)))] W fun e w' => ∃ a' m' k' B, W.heap.size + 2 ≤ B ∧ e = .returned (.agg (flC (T i) (P i) (.slice none 0 0) (.slice a' m' k'))) ∧ R i B w' (.slice a' m' k') ∧ Below W.heap.size W w')
    (hname : ∀ i, i < n → ∀ W b ac, W.heap[b]? = some (.cells (rwC (T i) (P i) (.slice none 0 0) ac ⟨#[]⟩) 84 (0, 0)) → Calls Tryz.prog 26 #[.pointer (some ⟨b, 0, none⟩)] W fun e w' => e = .returned (.string (N i)) ∧ ∃ q, w' = W.drewN q)
    (hd : ∀ i j, i < j → j < n → N i ≠ N j) :
    Calls Tryz.prog 7 #[.slice (some ⟨g, 0, none⟩) n c] w fun e w' => ∃ pb Z m g' cap D, e = .returned (.tuple #[.pointer (some ⟨pb, 0, none⟩), .int .i64 0]) ∧ PrgAt w' pb n T P R Z m g' cap D ∧ Below w.heap.size w w' := by
  have HRW : Hid _ := rowsOf_list g n c F w hg hn hm (fun i => (T i : Int)) P A M K N R hR hF hchk hcopy hname hd
  have HR : Hid _ := hR
  have HRS : Hid _ := hRs
  have HT : Hid _ := hT
  have HTD : Hid _ := hTd
  have HP : Hid _ := hP
  clear hg hn hR hRs hT hTd hP hF hchk hcopy hname hd
  go_enter Tryz.func7, Tryz.ntmps7
  go_wp2_with fail
  refine Calls.mono HRW.out ?_
  rintro e W0 ⟨rfl, b, hrws⟩
  have RW : Hid (Rws w (fun i => (T i : Int)) P N R n b W0) := hrws
  have HV : Hid _ := values_pdpathrow (some w.heap.size) W0
  have HS : Hid _ := sorted_rows hrws hm
  clear hrws HRW
  go_wp2_with fail
  refine Calls.mono HV.out ?_
  rintro e W2 ⟨rfl, hw2⟩
  rw [hw2]
  clear hw2 HV
  go_wp2_with fail
  refine Calls.mono HS.out ?_
  rintro e W3 ⟨v, ys, rfl, hperm, _, hown, hb3⟩
  have hyl : ys.length = n := by have := hperm.length_eq; simpa using this
  obtain ⟨g', cap, D, rfl, q1, q2, q3⟩ : ∃ g' cap D, v = .slice (some ⟨g', 0, none⟩) n cap ∧ W0.heap.size ≤ g' ∧ W3.heap[g']? = some (.cells D 73 (0, 0)) ∧ D.toList.take n = ys.map pv := by
    rcases hown.2 with ⟨_, h0⟩ | ⟨g', cap, cur, e, r1, r2, r3, r4, r5, r6⟩
    · omega
    · rw [hyl] at e r6
      exact ⟨g', cap, cur, e, r1, r2, by simpa using r6⟩
  have PERM : Hid (ys.Perm ((List.range n).map b)) := hperm
  have YL : Hid (ys.length = n) := hyl
  have ROW : Hid (W0.heap.size ≤ g' ∧ W3.heap[g']? = some (.cells D 73 (0, 0)) ∧ D.toList.take n = ys.map pv) := ⟨q1, q2, q3⟩
  have B3 : Hid (Below W0.heap.size W0 W3) := hb3
  clear hperm hyl hown q1 q2 q3 hb3 HS
  have BINJ : Hid (∀ i j, i < n → j < n → b i = b j → i = j) := by
    show ∀ i j, _
    intro i j hi hj e
    obtain ⟨a1, _, r1, _⟩ := RW.out.rows i hi
    obtain ⟨a2, _, r2, _⟩ := RW.out.rows j hj
    rw [e] at r1
    rw [r2] at r1
    have h1 := cell_row r2 0
    have h2 := cell_row (W := W0) (r1 ▸ r2) 0
    have : (T j : Int) = (T i : Int) := by
      injection r1 with r1
      injection r1 with r1
      simp [rwC] at r1
      exact r1.1
    exact (HTD.out j i hj hi (by omega)).symm
  have NOD : Hid (ys.Nodup) := by
    show ys.Nodup
    refine PERM.out.nodup_iff.2 ?_
    unfold List.Nodup
    rw [List.pairwise_map]
    exact List.Pairwise.imp_of_mem (fun hi hj hne e => hne (BINJ.out _ _ (List.mem_range.1 hi) (List.mem_range.1 hj) e)) List.nodup_range
  have PTR : Hid (∀ k i, k < n → ys[k]? = some (b i) → D[k]? = some (.pointer (some ⟨b i, 0, none⟩))) := by
    show ∀ k i, _
    intro k i hk hy
    have e1 : (D.toList.take n)[k]? = (ys.map pv)[k]? := by rw [ROW.out.2.2]
    rw [List.getElem?_take_of_lt hk, Array.getElem?_toList, List.getElem?_map, hy] at e1
    exact e1
  go_wp2_with (first
    | refine wpList_build_as rfl 81 _ rfl (pgC w.heap.size (.slice (some ⟨g', 0, none⟩) n cap) (List.replicate 64 (.pointer none))) (by rw [List.map_toArray]; exact built_prog _ _ _ _) ?_
    | fail)
  generalize hV4 : W3.alloc (Obj.cells _ _) = V
  obtain ⟨pb, hpb⟩ : ∃ q, W3.heap.size = q := ⟨_, rfl⟩
  have I0 : Hid (∃ Z, NewI V pb n T P b ys w.heap.size (.slice (some ⟨g', 0, none⟩) n cap) 0 V Z) := by
    show ∃ Z, _
    refine ⟨pgC w.heap.size (.slice (some ⟨g', 0, none⟩) n cap) (List.replicate 64 (.pointer none)), by rw [← hV4, ← hpb]; exact heap_alloc_new _ _, rfl, rfl, fun j hj => absurd hj (Nat.not_lt_zero _), fun i hi _ => ?_, fun _ _ _ => rfl, Nat.le_refl _, rfl, rfl, rfl⟩
    have := HT.out i hi
    show (pgC _ _ _)[2 + T i]? = _
    simp only [pgC, List.getElem?_toArray]
    rw [show 2 + T i = T i + 1 + 1 by omega, List.getElem?_cons_succ, List.getElem?_cons_succ, List.getElem?_replicate, if_pos this]
  have KEEP : Hid (∀ k, k < W3.heap.size → V.heap[k]? = W3.heap[k]?) := by rw [← hV4]; exact fun k hk => heap_alloc_old _ _ hk
  have c1 : V.cell? ⟨pb, 1, none⟩ = some (.slice (some ⟨g', 0, none⟩) n cap) := by
    obtain ⟨Z, hz⟩ := I0.out
    exact (cell_row hz.row 1).trans hz.ord
  have FIN : Hid (pb = W3.heap.size ∧ V.heap.size = W3.heap.size + 1 ∧ V.os = W3.os ∧ V.tape = W3.tape ∧ V.output = W3.output) := by
    show _ ∧ _
    rw [← hV4]; exact ⟨hpb.symm, by simp, rfl, rfl, rfl⟩
  rw [hpb]
  clear hV4 hpb
  go_wp2_with fail
  go_loopw [28] (fun i wr => ∃ k : Nat, i = .int .i64 k ∧ k ≤ n ∧ Hid (∃ Z, NewI V pb n T P b ys w.heap.size (.slice (some ⟨g', 0, none⟩) n cap) k wr Z)) (fun i _ => n - (intOf i).toNat)
  case atStart => exact ⟨0, rfl, Nat.zero_le _, I0.out⟩
  case round =>
    clear I0 c1
    obtain ⟨k, rfl, hkn, hni⟩ := hrel
    by_cases hlt : k < n
    · have hltI : (k : Int) < (n : Int) := by omega
      obtain ⟨Z, hz⟩ := hni.out
      have NI : Hid (NewI V pb n T P b ys w.heap.size (.slice (some ⟨g', 0, none⟩) n cap) k wr Z) := hz
      obtain ⟨i, hi, hy⟩ : ∃ i, i < n ∧ ys[k]? = some (b i) := by
        have hk : k < ys.length := by rw [YL.out]; exact hlt
        have hmem := PERM.out.subset (List.getElem_mem hk)
        obtain ⟨i, hi, e⟩ := List.mem_map.1 hmem
        exact ⟨i, List.mem_range.1 hi, by rw [List.getElem?_eq_getElem hk, ← e]⟩
      have HY : Hid (ys[k]? = some (b i)) := hy
      have gk : wr.cell? ⟨g', k, none⟩ = some (.pointer (some ⟨b i, 0, none⟩)) := by
        have h1 := lt_of_heap ROW.out.2.1
        have h2 : wr.heap[g']? = some (.cells D 73 (0, 0)) := (hz.keep g' (by have := FIN.out.2.1; omega) (by have := FIN.out.1; omega)).trans ((KEEP.out g' h1).trans ROW.out.2.1)
        exact (cell_row h2 k).trans (PTR.out k i hlt hy)
      obtain ⟨ac, B, r1, _, _, r4⟩ := RW.out.rows i hi
      obtain ⟨fa, fm, fk, rfl⟩ := HRS.out i B W0 ac r4
      have RR : Hid (wr.heap[b i]? = some (.cells (rwC (T i) (P i) (.slice none 0 0) (.slice fa fm fk) ⟨#[]⟩) 84 (0, 0))) := by
        have h1 := lt_of_heap r1
        have h2 := B3.out.size
        exact (hz.keep (b i) (by have := FIN.out.2.1; omega) (by have := FIN.out.1; omega)).trans ((KEEP.out _ (by omega)).trans ((B3.out.block _ h1).trans r1))
      have hfree := hz.free i hi (fun j hj e => by
        have hk : k < ys.length := by rw [YL.out]; exact hlt
        have := (List.getElem?_inj (show j < ys.length by omega) NOD.out).1 (e.trans hy.symm)
        omega)
      have HL : Hid _ := lay_new pb (T i) Z (HT.out i hi) (P i) ((k : Int) + 1) fa fm fk wr hz.row hfree (HP.out i hi).1 (HP.out i hi).2 (by omega)
      clear hz hni hy r1 r4 hfree
      go_wp2_with (first
        | refine Ac.wpList_load_as rfl 52 _ rfl (b i) 0 4 rfl _ (flC (T i) (P i) (.slice none 0 0) (.slice fa fm fk)) 84 _ RR.out Tryz.underlying52 rfl (head_row _ _ _) rfl size4 ?_
        | fail)
      refine Calls.mono HL.out ?_
      rintro e W5 ⟨rfl, cb, rb, tm, eb, tb, qb, B', _, l1, l2, l3, l4, l5, l6, l7, l8, l9, l10⟩
      have HN : Hid (∃ Z, NewI V pb n T P b ys w.heap.size (.slice (some ⟨g', 0, none⟩) n cap) (k + 1) W5 Z) := ⟨_, NI.out.step hi (by rw [YL.out]; exact hlt) HY.out HTD.out BINJ.out NOD.out ⟨rb, tm, eb, tb, qb, B', l1, l2, l3, l4⟩ l5 l6 l7 ⟨l8, l9, l10⟩⟩
      clear l1 l2 l3 l4 l5 l6 l7 l8 l9 l10 HL NI
      go_wp2
      go_roundw
      case rel => exact ⟨k + 1, by simp, by omega, HN.out⟩
      case measure => simp [intOf]; omega
    · have hkn2 : k = n := by omega
      subst hkn2
      obtain ⟨Z, hz⟩ := hni.out
      have NI : Hid (NewI V pb k T P b ys w.heap.size (.slice (some ⟨g', 0, none⟩) k cap) k wr Z) := hz
      have hnl : ¬ (k : Int) < (k : Int) := by omega
      clear hni hlt hz
      go_wp2
      go_ret2
      have KW : ∀ q, q < W0.heap.size → wr.heap[q]? = W0.heap[q]? := fun q hq => by
        have h2 := B3.out.size
        exact (NI.out.keep q (by have := FIN.out.2.1; omega) (by have := FIN.out.1; omega)).trans ((KEEP.out _ (by omega)).trans (B3.out.block _ hq))
      have SZ : W0.heap.size ≤ wr.heap.size := by have := NI.out.size; have := FIN.out.2.1; have := B3.out.size; omega
      have h1 := lt_of_heap ROW.out.2.1
      have PA : PrgAt wr pb k T P R Z w.heap.size g' cap D := ⟨NI.out.row, NI.out.map, NI.out.ord, (NI.out.keep g' (by have := FIN.out.2.1; omega) (by have := FIN.out.1; omega)).trans ((KEEP.out g' h1).trans ROW.out.2.1), fun i hi => by
        have hmem : b i ∈ ys := PERM.out.symm.subset (List.mem_map.2 ⟨i, List.mem_range.2 hi, rfl⟩)
        obtain ⟨j, hj, e⟩ := List.getElem_of_mem hmem
        have hy : ys[j]? = some (b i) := by rw [List.getElem?_eq_getElem hj, e]
        have hjk : j < k := by rw [YL.out] at hj; exact hj
        obtain ⟨i', cb, i1, i2, i3, i4⟩ := NI.out.laid j hjk
        have hii : i' = i := BINJ.out i' i i1 hi (Option.some.inj (i2.symm.trans hy))
        subst hii
        obtain ⟨ac, B, r1, _, _, r4⟩ := RW.out.rows i' hi
        exact ⟨j, cb, b i', ac, B, hjk, i3, i4, PTR.out j i' hjk hy, (KW _ (lt_of_heap r1)).trans r1, HR.out i' B W0 wr ac r4 SZ (fun q _ hq => KW q hq)⟩⟩
      have BL : Below w.heap.size w wr := RW.out.below.trans ((⟨NI.out.out.1.trans (FIN.out.2.2.1.trans B3.out.os), NI.out.out.2.1.trans (FIN.out.2.2.2.1.trans B3.out.tape), NI.out.out.2.2.trans (FIN.out.2.2.2.2.trans B3.out.output), SZ, KW⟩ : Below W0.heap.size W0 wr).mono RW.out.below.size)
      first | exact ⟨_, _, _, _, _, _, rfl, PA, BL⟩ | exact ⟨_, rfl, _, _, _, _, _, PA, BL⟩ | exact ⟨_, rfl, ⟨_, _, _, _, _, PA⟩, BL⟩ | (trace_state; fail)
end Go.Proofs.YtnahhmcmahbnkaaGreatDoor
