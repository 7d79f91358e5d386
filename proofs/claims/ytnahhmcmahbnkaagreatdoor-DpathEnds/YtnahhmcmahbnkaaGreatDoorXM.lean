/- Run of a Program from a table that a flow is in. Conditions: as said. -/
import Derived.Test.YtnahhmcmahbnkaaGreatDoorXL
import Derived.Deep.DeepMust
import Derived.Deep.RegionHeld
import Derived.Lib.Hide
namespace Go.Proofs.YtnahhmcmahbnkaaGreatDoor
open Go.RowKit
theorem built_run (pb : Nat) (tv : Option Addr) : Tryz.prog.built 89 [(0, .pointer (some ⟨pb, 0, none⟩)), (1, .pointer tv)] = some (runC pb (.pointer tv) (.slice none 0 0) 0) := by kernel_rfl
set_option linter.unusedSimpArgs false in
set_option maxRecDepth 100000 in
set_option maxHeartbeats 8000000 in
theorem run_prg {w : World} {pb n : Nat} {T : Nat → Nat} {P : Nat → Int} {F : Nat → List AOp} {A : Array Value} {m g cap : Nat} {D : Array Value} (hC : PrgAt w pb n T P (fun i => ActsAt n T (F i)) A m g cap D) (hn : n ≤ 65536) (hT : ∀ i, i < n → T i < 64) (ta : Addr) (i : Nat) (hi : i < n) (s : Array Value) (hs : St s) (f : Nat) (b : Bool) (q1 : Nat) (o1 : SentL) (hres : runO F f (F i) s 0 [] = some (b, q1, o1)) (hmax : o1.length ≤ 1000000) :
    Calls Tryz.prog 9 #[.pointer (some ⟨pb, 0, none⟩), .pointer (some ta), .int .i64 (T i), .agg s] w fun e w' => (∃ sv, e = .returned (.tuple #[sv, .int .i64 q1, .int .i64 (if b then 0 else 130)]) ∧ w'.ownsRow w.heap.size 66 51 sv o1.length (sentsC o1)) ∧ Below w.heap.size w w' := by
  have HC : Hid (PrgAt w pb n T P (fun i => ActsAt n T (F i)) A m g cap D) := hC
  have HT : Hid (∀ i, i < n → T i < 64) := hT
  have HS : Hid (St s) := hs
  have HRES : Hid (runO F f (F i) s 0 [] = some (b, q1, o1)) := hres
  have HM : Hid (o1.length ≤ 1000000) := hmax
  have HI : Hid (i < n) := hi
  have HN : Hid (n ≤ 65536) := hn
  have hti := hT i hi
  have B0 : Hid (Below w.heap.size w (w.alloc (.cells s 38))) := below1 _ _
  have S0 : Hid ((w.alloc (.cells s 38)).heap[w.heap.size]? = some (.cells s 38 (0, 0))) := heap_alloc_new _ _
  have P0 : Hid ((w.alloc (.cells s 38)).heap[pb]? = some (.cells A 81 (0, 0))) := (heap_alloc_old _ _ (lt_of_heap hC.row)).trans hC.row
  obtain ⟨V, hV⟩ : ∃ V, V = w.alloc (.cells s 38) := ⟨_, rfl⟩
  rw [← hV] at B0 S0 P0
  have HPM : Hid _ := pmade_yes (p := pb) (m := m) V ((cell_row P0.out 0).trans hC.map)
  have HIT : Hid (Calls Tryz.prog 19 #[.int .i64 (T i)] V fun e w' => e = .returned (.bool true) ∧ w' = V) := (isTable_any (T i) V).mono fun e w' ⟨he, hw⟩ => ⟨by rw [he]; simp; omega, hw⟩
  have q := eql_pcttab
  clear hC hT hs hres hmax hi hti hn
  go_enter Tryz.func9, Tryz.ntmps9
  go_wp2_with fail
  rw [← hV]
  clear hV
  refine Calls.mono HPM.out ?_
  rintro e W1 ⟨rfl, hw1⟩
  rw [hw1]
  clear hw1 HPM
  go_wp2_with (first
    | (go_at_call 19; refine Calls.mono HIT.out ?_; rintro e w9 ⟨rfl, hw9⟩; rw [hw9]; clear hw9)
    | refine wpList_build_as rfl 89 _ rfl (runC pb (.pointer (some ta)) (.slice none 0 0) 0) (by rw [List.map_toArray]; exact built_run _ _) ?_
    | fail)
  have hSr : Hid (V.heap.size = V.heap.size) := rfl
  obtain ⟨V1, hV1⟩ : ∃ V1, V1 = V.alloc (.cells (runC pb (.pointer (some ta)) (.slice none 0 0) 0) 89) := ⟨_, rfl⟩
  obtain ⟨rb, hrb⟩ : ∃ rb, rb = V.heap.size := ⟨_, rfl⟩
  have R1 : Hid (V1.drew.heap[rb]? = some (.cells (runC pb (.pointer (some ta)) (.slice none 0 0) 0) 89 (0, 0))) := by show _ = _; rw [hV1, hrb]; exact heap_alloc_new _ _
  have B1 : Hid (Below w.heap.size w V1.drew) := by show Below _ _ _; rw [hV1]; exact (B0.out.alloc B0.out.size _).drew
  have S1 : Hid (V1.drew.heap[w.heap.size]? = some (.cells s 38 (0, 0))) := by show _ = _; rw [hV1]; exact (heap_alloc_old _ _ (lt_of_heap S0.out)).trans S0.out
  have HRB : Hid (w.heap.size ≤ rb) := by show _ ≤ _; rw [hrb]; exact B0.out.size
  have KS : Hid (∀ W : World, Below w.heap.size w W → W.heap[w.heap.size]? = some (.cells s 38 (0, 0)) → W.heap[w.heap.size]? = some (.cells s 38 (0, 0)) ∧ W.heap[pb]? = some (.cells A 81 (0, 0))) := fun W h1 h2 => ⟨h2, (h1.block _ (lt_of_heap HC.out.row)).trans HC.out.row⟩
  rw [← hV1, ← hrb]
  clear hV1 hrb hSr B0 S0 P0 HIT
  refine wp_region_held_drew (S := fun W : World => W.heap[w.heap.size]? = some (.cells s 38 (0, 0)) ∧ W.heap[pb]? = some (.cells A 81 (0, 0))) (by kernel_rfl) ?_ (fun hHeld => ?_)
  · exact KS.out _ B1.out S1.out
  obtain ⟨V2, hV2⟩ : ∃ V2, V2 = V1.drew := ⟨_, rfl⟩
  rw [← hV2] at R1 B1 S1 hHeld ⊢
  clear hV2
  refine wpAnyH_take (i := 0) (v := ?_) rfl (by kernel_rfl) (by kernel_rfl) (by kernel_rfl) (fun _ _ _ h => h) (Or.inl ⟨by rfl, ?_⟩) (by assumption) ?_
  rotate_left
  · (intro w hSw; (try dsimp only at hSw); go_simp; try with_reducible rfl)
  try simp only [List.getElem_toArray, List.getElem_cons_zero, List.getElem_cons_succ, Act.put, List.setIfInBounds_toArray, List.set_cons_zero, List.set_cons_succ]
  refine wpAnyH_take (i := 1) (v := ?_) rfl (by kernel_rfl) (by kernel_rfl) (by kernel_rfl) (fun _ _ _ h => h) (Or.inl ⟨by rfl, ?_⟩) (by assumption) ?_
  rotate_left
  · (intro w hSw; (try dsimp only at hSw); go_simp; try with_reducible rfl)
  try simp only [List.getElem_toArray, List.getElem_cons_zero, List.getElem_cons_succ, Act.put, List.setIfInBounds_toArray, List.set_cons_zero, List.set_cons_succ]
  refine wpAnyH_take (i := 2) (v := ?_) rfl (by kernel_rfl) (by kernel_rfl) (by kernel_rfl) (fun _ _ _ h => h) (Or.inl ⟨by rfl, ?_⟩) (by assumption) ?_
  rotate_left
  · (intro w hSw; (try dsimp only at hSw); go_simp; try with_reducible rfl)
  try simp only [List.getElem_toArray, List.getElem_cons_zero, List.getElem_cons_succ, Act.put, List.setIfInBounds_toArray, List.set_cons_zero, List.set_cons_succ]
  refine wpAnyH_take (i := 3) (v := .agg s) rfl (by kernel_rfl) (by kernel_rfl) (by kernel_rfl) (fun _ _ _ h => h) (yields_load49 (by rfl) _ rfl w.heap.size rfl s (fun _ h => h.1) HS.out.size) (by assumption) ?_
  try simp only [List.getElem_toArray, List.getElem_cons_zero, List.getElem_cons_succ, Act.put, List.setIfInBounds_toArray, List.set_cons_zero, List.set_cons_succ]
  refine wpAnyH_take (i := 5) (v := .agg s) rfl (by kernel_rfl) (by kernel_rfl) (by kernel_rfl) (fun _ _ _ h => h) (yields_load49 (by rfl) _ rfl w.heap.size rfl s (fun _ h => h.1) HS.out.size) (by assumption) ?_
  try simp only [List.getElem_toArray, List.getElem_cons_zero, List.getElem_cons_succ, Act.put, List.setIfInBounds_toArray, List.set_cons_zero, List.set_cons_succ]
  refine wpAnyH_ready (rs := [4]) (by kernel_rfl) (by simp) ?_
  refine AllReadyH.cons (o := _) rfl (fun K hK => ?_) AllReadyH.nil
  go_simp
  refine Calls.mono (find_prg (HC.out.fix B1.out) HN.out i HI.out (HT.out i HI.out) s HS.out) ?_
  rintro e V3 ⟨⟨ac, C, rfl, hac⟩, hb3⟩
  have B3 : Hid (Below w.heap.size w V3) := B1.out.trans (hb3.mono B1.out.size)
  have S3 : Hid (V3.heap[w.heap.size]? = some (.cells s 38 (0, 0))) := (hb3.block _ (lt_of_heap S1.out)).trans S1.out
  have R3 : Hid (V3.heap[rb]? = some (.cells (runC pb (.pointer (some ta)) (.slice none 0 0) 0) 89 (0, 0))) := (hb3.block _ (lt_of_heap R1.out)).trans R1.out
  have HAC : Hid (ActsAt n T (F i) C V3 ac) := hac.of (fun g _ _ _ h2 => B3.out.block g (lt_of_heap h2))
  clear hb3 hac B1 S1 R1
  go_wp2_with fail
  refine hK.out _ _ (KS.out _ B3.out S3.out) (fun hHeld2 => ?_)
  clear hK K hHeld
  have hHeld := hHeld2
  clear hHeld2
  try simp only [List.getElem_toArray, List.getElem_cons_zero, List.getElem_cons_succ, Act.put, List.setIfInBounds_toArray, List.set_cons_zero, List.set_cons_succ]
  refine wpAnyH_ready (rs := [6]) (by kernel_rfl) (by simp) ?_
  refine AllReadyH.cons (o := _) rfl (fun K hK => ?_) AllReadyH.nil
  go_simp
  refine Calls.mono (do_any HC.out HN.out HT.out (.pointer (some ta)) rb HRB.out f V3 (F i) ac s 0 [] (.slice none 0 0) C b q1 o1 B3.out R3.out ⟨rfl, .inl ⟨rfl, rfl⟩⟩ HAC.out HS.out (by omega) HRES.out HM.out) ?_
  rintro e V4 ⟨rfl, sv, hr4, ho4, hm4⟩
  have B4 : Hid (Below w.heap.size w V4) := B3.out.trans hm4.below
  have S4 : Hid (V4.heap[w.heap.size]? = some (.cells s 38 (0, 0))) := hm4.cells (lt_of_heap S3.out) S3.out (by decide) (by decide)
  have R4 : Hid (V4.heap[rb]? = some (.cells (runC pb (.pointer (some ta)) sv q1) 89 (0, 0))) := hr4
  have O4 : Hid (V4.ownsRow w.heap.size 66 51 sv o1.length (sentsC o1)) := ho4
  clear hr4 ho4 hm4 B3 S3 R3 HAC
  go_wp2_with fail
  refine hK.out _ _ (KS.out _ B4.out S4.out) (fun hHeld2 => ?_)
  clear hK K hHeld
  have hHeld := hHeld2
  clear hHeld2
  try simp only [List.getElem_toArray, List.getElem_cons_zero, List.getElem_cons_succ, Act.put, List.setIfInBounds_toArray, List.set_cons_zero, List.set_cons_succ]
  refine wpAnyH_take (i := 7) (v := ?_) rfl (by kernel_rfl) (by kernel_rfl) (by kernel_rfl) (fun _ _ _ h => h) (Or.inl ⟨by rfl, ?_⟩) (by assumption) ?_
  rotate_left
  · (intro w hSw; (try dsimp only at hSw); go_simp; try with_reducible rfl)
  try simp only [List.getElem_toArray, List.getElem_cons_zero, List.getElem_cons_succ, Act.put, List.setIfInBounds_toArray, List.set_cons_zero, List.set_cons_succ]
  clear hHeld KS S4
  refine wpAnyH_done (by kernel_rfl) ?_ _
  cases b with
  | true =>
    go_wp2_with fail
    refine wp_region_held_drew (S := fun W : World => W.cell? ⟨rb, 2, none⟩ = some sv ∧ W.cell? ⟨rb, 3, none⟩ = some (.int .i64 (q1 : Int))) (by kernel_rfl) ?_ (fun hHeld => ?_)
    · exact ⟨cell_row (W := V4.drew) R4.out 2, cell_row (W := V4.drew) R4.out 3⟩
    refine wpAnyH_take (i := 0) (v := ?_) rfl (by kernel_rfl) (by kernel_rfl) (by kernel_rfl) (fun _ _ _ h => h) (Or.inl ⟨by rfl, ?_⟩) (by assumption) ?_
    rotate_left
    · (intro w hSw; (try dsimp only at hSw); go_simp; try with_reducible rfl)
    try simp only [List.getElem_toArray, List.getElem_cons_zero, List.getElem_cons_succ, Act.put, List.setIfInBounds_toArray, List.set_cons_zero, List.set_cons_succ]
    refine wpAnyH_take (i := 1) (v := ?_) rfl (by kernel_rfl) (by kernel_rfl) (by kernel_rfl) (fun _ _ _ h => h) (Or.inl ⟨by rfl, ?_⟩) (by assumption) ?_
    rotate_left
    · (intro w hSw; (try dsimp only at hSw); go_simp; try with_reducible rfl)
    try simp only [List.getElem_toArray, List.getElem_cons_zero, List.getElem_cons_succ, Act.put, List.setIfInBounds_toArray, List.set_cons_zero, List.set_cons_succ]
    refine wpAnyH_take (i := 2) (v := ?_) rfl (by kernel_rfl) (by kernel_rfl) (by kernel_rfl) (fun _ _ _ h => h) (Or.inl ⟨by rfl, ?_⟩) (by assumption) ?_
    rotate_left
    · (intro w hSw; (try dsimp only at hSw); go_simp; try with_reducible rfl)
    try simp only [List.getElem_toArray, List.getElem_cons_zero, List.getElem_cons_succ, Act.put, List.setIfInBounds_toArray, List.set_cons_zero, List.set_cons_succ]
    refine wpAnyH_take (i := 3) (v := ?_) rfl (by kernel_rfl) (by kernel_rfl) (by kernel_rfl) (fun _ _ _ h => h) (Or.inl ⟨by rfl, ?_⟩) (by assumption) ?_
    rotate_left
    · (intro w hSw; (try dsimp only at hSw); go_simp; try with_reducible rfl)
    try simp only [List.getElem_toArray, List.getElem_cons_zero, List.getElem_cons_succ, Act.put, List.setIfInBounds_toArray, List.set_cons_zero, List.set_cons_succ]
    refine wpAnyH_take (i := 4) (v := ?_) rfl (by kernel_rfl) (by kernel_rfl) (by kernel_rfl) (fun _ _ _ h => h) (Or.inl ⟨by rfl, ?_⟩) (by assumption) ?_
    rotate_left
    · (intro w hSw; (try dsimp only at hSw); go_simp; try with_reducible rfl)
    try simp only [List.getElem_toArray, List.getElem_cons_zero, List.getElem_cons_succ, Act.put, List.setIfInBounds_toArray, List.set_cons_zero, List.set_cons_succ]
    refine wpAnyH_take (i := 5) (v := ?_) rfl (by kernel_rfl) (by kernel_rfl) (by kernel_rfl) (fun _ _ _ h => h) (Or.inl ⟨by rfl, ?_⟩) (by assumption) ?_
    rotate_left
    · (intro w hSw; (try dsimp only at hSw); go_simp; try with_reducible rfl)
    try simp only [List.getElem_toArray, List.getElem_cons_zero, List.getElem_cons_succ, Act.put, List.setIfInBounds_toArray, List.set_cons_zero, List.set_cons_succ]
    refine wpAnyH_take (i := 6) (v := ?_) rfl (by kernel_rfl) (by kernel_rfl) (by kernel_rfl) (fun _ _ _ h => h) (Or.inl ⟨by rfl, ?_⟩) (by assumption) ?_
    rotate_left
    · (intro w hSw; (try dsimp only at hSw); go_simp; try with_reducible rfl)
    try simp only [List.getElem_toArray, List.getElem_cons_zero, List.getElem_cons_succ, Act.put, List.setIfInBounds_toArray, List.set_cons_zero, List.set_cons_succ]
    refine wpAnyH_take (i := 7) (v := ?_) rfl (by kernel_rfl) (by kernel_rfl) (by kernel_rfl) (fun _ _ _ h => h) (Or.inl ⟨by rfl, ?_⟩) (by assumption) ?_
    rotate_left
    · (intro w hSw; (try dsimp only at hSw); go_simp; try with_reducible rfl)
    try simp only [List.getElem_toArray, List.getElem_cons_zero, List.getElem_cons_succ, Act.put, List.setIfInBounds_toArray, List.set_cons_zero, List.set_cons_succ]
    refine wpAnyH_take (i := 8) (v := ?_) rfl (by kernel_rfl) (by kernel_rfl) (by kernel_rfl) (fun _ _ _ h => h) (Or.inl ⟨by rfl, ?_⟩) (by assumption) ?_
    rotate_left
    · (intro w hSw; (try dsimp only at hSw); go_simp; try with_reducible rfl)
    try simp only [List.getElem_toArray, List.getElem_cons_zero, List.getElem_cons_succ, Act.put, List.setIfInBounds_toArray, List.set_cons_zero, List.set_cons_succ]
    refine wpAnyH_take (i := 9) (v := ?_) rfl (by kernel_rfl) (by kernel_rfl) (by kernel_rfl) (fun _ _ _ h => h) (Or.inl ⟨by rfl, ?_⟩) (by assumption) ?_
    rotate_left
    · (intro w hSw; (try dsimp only at hSw); go_simp; try with_reducible rfl)
    try simp only [List.getElem_toArray, List.getElem_cons_zero, List.getElem_cons_succ, Act.put, List.setIfInBounds_toArray, List.set_cons_zero, List.set_cons_succ]
    refine wpAnyH_take (i := 10) (v := ?_) rfl (by kernel_rfl) (by kernel_rfl) (by kernel_rfl) (fun _ _ _ h => h) (Or.inl ⟨by rfl, ?_⟩) (by assumption) ?_
    rotate_left
    · (intro w hSw; (try dsimp only at hSw); go_simp; try with_reducible rfl)
    try simp only [List.getElem_toArray, List.getElem_cons_zero, List.getElem_cons_succ, Act.put, List.setIfInBounds_toArray, List.set_cons_zero, List.set_cons_succ]
    refine wpAnyH_take (i := 11) (v := ?_) rfl (by kernel_rfl) (by kernel_rfl) (by kernel_rfl) (fun _ _ _ h => h) (Or.inl ⟨by rfl, ?_⟩) (by assumption) ?_
    rotate_left
    · (intro w hSw; (try dsimp only at hSw); go_simp; try with_reducible rfl)
    try simp only [List.getElem_toArray, List.getElem_cons_zero, List.getElem_cons_succ, Act.put, List.setIfInBounds_toArray, List.set_cons_zero, List.set_cons_succ]
    clear hHeld
    refine wpAnyH_done (by kernel_rfl) ?_ _
    go_wp2_with fail
    refine bodyPost_ret (v := .tuple #[sv, .int .i64 q1, .int .i64 (0)]) ?_ rfl ⟨⟨sv, rfl, own_same O4.out (fun g _ => rfl)⟩, B4.out.drew⟩
    simp [results, Tryz.f9, go_sem]
  | false =>
    go_wp2_with fail
    refine wp_region_held_drew (S := fun W : World => W.cell? ⟨rb, 2, none⟩ = some sv ∧ W.cell? ⟨rb, 3, none⟩ = some (.int .i64 (q1 : Int))) (by kernel_rfl) ?_ (fun hHeld => ?_)
    · exact ⟨cell_row (W := V4.drew) R4.out 2, cell_row (W := V4.drew) R4.out 3⟩
    refine wpAnyH_take (i := 0) (v := ?_) rfl (by kernel_rfl) (by kernel_rfl) (by kernel_rfl) (fun _ _ _ h => h) (Or.inl ⟨by rfl, ?_⟩) (by assumption) ?_
    rotate_left
    · (intro w hSw; (try dsimp only at hSw); go_simp; try with_reducible rfl)
    try simp only [List.getElem_toArray, List.getElem_cons_zero, List.getElem_cons_succ, Act.put, List.setIfInBounds_toArray, List.set_cons_zero, List.set_cons_succ]
    refine wpAnyH_take (i := 1) (v := ?_) rfl (by kernel_rfl) (by kernel_rfl) (by kernel_rfl) (fun _ _ _ h => h) (Or.inl ⟨by rfl, ?_⟩) (by assumption) ?_
    rotate_left
    · (intro w hSw; (try dsimp only at hSw); go_simp; try with_reducible rfl)
    try simp only [List.getElem_toArray, List.getElem_cons_zero, List.getElem_cons_succ, Act.put, List.setIfInBounds_toArray, List.set_cons_zero, List.set_cons_succ]
    refine wpAnyH_take (i := 2) (v := ?_) rfl (by kernel_rfl) (by kernel_rfl) (by kernel_rfl) (fun _ _ _ h => h) (Or.inl ⟨by rfl, ?_⟩) (by assumption) ?_
    rotate_left
    · (intro w hSw; (try dsimp only at hSw); go_simp; try with_reducible rfl)
    try simp only [List.getElem_toArray, List.getElem_cons_zero, List.getElem_cons_succ, Act.put, List.setIfInBounds_toArray, List.set_cons_zero, List.set_cons_succ]
    refine wpAnyH_take (i := 3) (v := ?_) rfl (by kernel_rfl) (by kernel_rfl) (by kernel_rfl) (fun _ _ _ h => h) (Or.inl ⟨by rfl, ?_⟩) (by assumption) ?_
    rotate_left
    · (intro w hSw; (try dsimp only at hSw); go_simp; try with_reducible rfl)
    try simp only [List.getElem_toArray, List.getElem_cons_zero, List.getElem_cons_succ, Act.put, List.setIfInBounds_toArray, List.set_cons_zero, List.set_cons_succ]
    refine wpAnyH_take (i := 4) (v := ?_) rfl (by kernel_rfl) (by kernel_rfl) (by kernel_rfl) (fun _ _ _ h => h) (Or.inl ⟨by rfl, ?_⟩) (by assumption) ?_
    rotate_left
    · (intro w hSw; (try dsimp only at hSw); go_simp; try with_reducible rfl)
    try simp only [List.getElem_toArray, List.getElem_cons_zero, List.getElem_cons_succ, Act.put, List.setIfInBounds_toArray, List.set_cons_zero, List.set_cons_succ]
    refine wpAnyH_take (i := 5) (v := ?_) rfl (by kernel_rfl) (by kernel_rfl) (by kernel_rfl) (fun _ _ _ h => h) (Or.inl ⟨by rfl, ?_⟩) (by assumption) ?_
    rotate_left
    · (intro w hSw; (try dsimp only at hSw); go_simp; try with_reducible rfl)
    try simp only [List.getElem_toArray, List.getElem_cons_zero, List.getElem_cons_succ, Act.put, List.setIfInBounds_toArray, List.set_cons_zero, List.set_cons_succ]
    refine wpAnyH_take (i := 6) (v := ?_) rfl (by kernel_rfl) (by kernel_rfl) (by kernel_rfl) (fun _ _ _ h => h) (Or.inl ⟨by rfl, ?_⟩) (by assumption) ?_
    rotate_left
    · (intro w hSw; (try dsimp only at hSw); go_simp; try with_reducible rfl)
    try simp only [List.getElem_toArray, List.getElem_cons_zero, List.getElem_cons_succ, Act.put, List.setIfInBounds_toArray, List.set_cons_zero, List.set_cons_succ]
    refine wpAnyH_take (i := 7) (v := ?_) rfl (by kernel_rfl) (by kernel_rfl) (by kernel_rfl) (fun _ _ _ h => h) (Or.inl ⟨by rfl, ?_⟩) (by assumption) ?_
    rotate_left
    · (intro w hSw; (try dsimp only at hSw); go_simp; try with_reducible rfl)
    try simp only [List.getElem_toArray, List.getElem_cons_zero, List.getElem_cons_succ, Act.put, List.setIfInBounds_toArray, List.set_cons_zero, List.set_cons_succ]
    refine wpAnyH_take (i := 8) (v := ?_) rfl (by kernel_rfl) (by kernel_rfl) (by kernel_rfl) (fun _ _ _ h => h) (Or.inl ⟨by rfl, ?_⟩) (by assumption) ?_
    rotate_left
    · (intro w hSw; (try dsimp only at hSw); go_simp; try with_reducible rfl)
    try simp only [List.getElem_toArray, List.getElem_cons_zero, List.getElem_cons_succ, Act.put, List.setIfInBounds_toArray, List.set_cons_zero, List.set_cons_succ]
    refine wpAnyH_take (i := 9) (v := ?_) rfl (by kernel_rfl) (by kernel_rfl) (by kernel_rfl) (fun _ _ _ h => h) (Or.inl ⟨by rfl, ?_⟩) (by assumption) ?_
    rotate_left
    · (intro w hSw; (try dsimp only at hSw); go_simp; try with_reducible rfl)
    try simp only [List.getElem_toArray, List.getElem_cons_zero, List.getElem_cons_succ, Act.put, List.setIfInBounds_toArray, List.set_cons_zero, List.set_cons_succ]
    refine wpAnyH_take (i := 10) (v := ?_) rfl (by kernel_rfl) (by kernel_rfl) (by kernel_rfl) (fun _ _ _ h => h) (Or.inl ⟨by rfl, ?_⟩) (by assumption) ?_
    rotate_left
    · (intro w hSw; (try dsimp only at hSw); go_simp; try with_reducible rfl)
    try simp only [List.getElem_toArray, List.getElem_cons_zero, List.getElem_cons_succ, Act.put, List.setIfInBounds_toArray, List.set_cons_zero, List.set_cons_succ]
    refine wpAnyH_take (i := 11) (v := ?_) rfl (by kernel_rfl) (by kernel_rfl) (by kernel_rfl) (fun _ _ _ h => h) (Or.inl ⟨by rfl, ?_⟩) (by assumption) ?_
    rotate_left
    · (intro w hSw; (try dsimp only at hSw); go_simp; try with_reducible rfl)
    try simp only [List.getElem_toArray, List.getElem_cons_zero, List.getElem_cons_succ, Act.put, List.setIfInBounds_toArray, List.set_cons_zero, List.set_cons_succ]
    clear hHeld
    refine wpAnyH_done (by kernel_rfl) ?_ _
    go_wp2_with fail
    refine bodyPost_ret (v := .tuple #[sv, .int .i64 q1, .int .i64 (130)]) ?_ rfl ⟨⟨sv, rfl, own_same O4.out (fun g _ => rfl)⟩, B4.out.drew⟩
    simp [results, Tryz.f9, go_sem]
end Go.Proofs.YtnahhmcmahbnkaaGreatDoor
