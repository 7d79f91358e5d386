/- LpmDoes: every call. Conditions: as said. -/
import Derived.Test.YtlopnagajhjmmaaLZ
import Derived.Test.YtlopnagajhjmmaaMA
namespace Go.Proofs.Ytlopnagajhjmmaa
open Go.RowKit Tr
theorem TR.looks {w V : World} {tb xb : Nat} {t : Tr} (h : TR w V tb xb t t.ents) : Calls Try.prog 18 #[ptr tb, ptr xb] V fun e w' => e = .returned (.bool true) ∧ Hid (TR w w' tb xb t t.ents) := by
  obtain ⟨qa, qc, hR⟩ := h.ref
  exact (looks_any h.tab hR).mono fun e w' ⟨he, hb⟩ => ⟨he, h.below hb⟩
set_option linter.unusedSimpArgs false in
set_option maxRecDepth 20000 in
set_option maxHeartbeats 8000000 in
theorem does_any {w : World} {a1 : Option Addr} {n1 c1 : Nat} {l : List Opd} (hl : OS w a1 n1 l) :
    Calls Try.prog 3 #[.slice a1 n1 c1] w fun e w' => e = .returned (.bool true) ∧ Below w.heap.size w w' := by
  have r1 := hl.room
  have l1 := hl.len
  have HL : Hid _ := hl
  clear hl
  go_enter Try.func3, Try.ntmps3
  refine cut_code fun d1 e1 => ?_
  go_wp2_with fail
  rw [← e1.out]; clear e1 d1
  refine cut_code fun d1 e1 => ?_
  go_wp2_with fail
  refine (new_tab w).mono ?_
  rintro e W0 ⟨rfl, T0, s0, b0⟩
  go_wp2_with fail
  obtain ⟨W1, hW1⟩ : ∃ z, z = W0.alloc (.cells #[.slice none 0 0] 28) := ⟨_, rfl⟩
  have TW1 : Hid (TR w W1 (w.heap.size + 1) (w.heap.size + 2) (newT w.heap.size) (newT w.heap.size).ents) := by
    have b1 := below1 W0 (.cells #[.slice none 0 0] 28)
    rw [← hW1] at b1
    refine ⟨tab_bel T0 b1, ⟨none, 0, rtab_nil (by rw [hW1, ← s0]; exact heap_alloc_new _ _) (by omega)⟩, ?_, b0.trans (b1.mono (by omega))⟩
    intro x hx; simp [newT, blocks] at hx; omega
  rw [← hW1]
  obtain ⟨T, hTe⟩ : ∃ z, z = newT w.heap.size := ⟨_, rfl⟩
  obtain ⟨tb, htb⟩ : ∃ z, z = w.heap.size + 1 := ⟨_, rfl⟩
  obtain ⟨xb, hxb⟩ : ∃ z, z = w.heap.size + 2 := ⟨_, rfl⟩
  rw [← hTe, ← htb, ← hxb] at TW1
  rw [← htb, ← hxb]
  clear T0 s0 b0 hW1 hTe htb hxb
  rw [← e1.out]; clear e1 d1
  refine cut_code fun d1 e1 => ?_
  go_wp2_with fail
  refine (lives_any W1).mono ?_
  rintro e W2 ⟨rfl, b2⟩
  have TW2 : Hid _ := TW1.out.below b2
  clear TW1 b2
  go_wp2
  rw [← e1.out]; clear e1 d1
  refine cut_code fun d1 e1 => ?_
  go_wp2_with fail
  go_loopw [5] (fun i wr => ∃ (k : Nat) (t : Tr), k ≤ n1 ∧ i = .int .i64 k ∧ Hid (TR w wr tb xb t t.ents)) (fun i _ => n1 - (intOf i).toNat)
  case atStart => exact ⟨0, T, Nat.zero_le _, rfl, TW2⟩
  case round =>
    clear TW2
    obtain ⟨k, t, hk, rfl, TW⟩ := hrel
    by_cases hlt : k < n1
    · obtain ⟨q, ht⟩ : ∃ q, l[k]? = some q := ⟨l[k]'(by omega), List.getElem?_eq_getElem (by omega)⟩
      obtain ⟨lb, off, rfl, hop⟩ := HL.out.at TW.out.bel ht
      have hqn : I64 q.n := (HL.out.ok q (List.mem_of_getElem? ht)).2.1
      have hqk : I64 q.k := (HL.out.ok q (List.mem_of_getElem? ht)).1
      have c0 := hop.1
      have c1 := hop.2.1
      have c2 := hop.2.2.1
      have c3 := hop.2.2.2
      have hki : (k : Int) < (n1 : Int) := by omega
      have hk0 : (0 : Int) ≤ (k : Int) := by omega
      have hk2 : (k : Int) ≤ 140737488351232 := by omega
      have HSO : Hid _ := (TW.out.right rfl)
      have TWo : Hid _ := TW.out.below (below1 wr (.cells #[.int .i64 q.k, .int .u32 q.p.toNat, .int .i64 q.n, .int .i64 q.v] 32))
      have OCo : Hid (OC (wr.alloc (.cells #[.int .i64 q.k, .int .u32 q.p.toNat, .int .i64 q.n, .int .i64 q.v] 32)) wr.heap.size q) := heap_alloc_new _ _
      clear hop ht TW HL
      by_cases g1 : q.k = 1
      · rw [g1] at c0 TWo OCo
        go_wp2_with fail
        obtain ⟨Wo, hWo⟩ : ∃ z, z = wr.alloc (.cells #[.int .i64 1, .int .u32 q.p.toNat, .int .i64 q.n, .int .i64 q.v] 32) := ⟨_, rfl⟩
        obtain ⟨ob, hob⟩ : ∃ z, z = wr.heap.size := ⟨_, rfl⟩
        rw [← hWo] at TWo OCo ⊢
        rw [← hob] at OCo ⊢
        clear hWo hob c0 c1 c2 c3
        have TWd : Hid (TR w Wo.drew tb xb t t.ents) := TWo.out.below (Below.refl _ _).drew
        have OCd : Hid (OC Wo.drew ob q) := OCo.out
        have HAD : Hid _ := does_add TWd.out OCd.out
        refine wp_region_held_drew (S := (fun V => V.cell? ⟨ob, 1, none⟩ = some (.int .u32 q.p.toNat) ∧ V.cell? ⟨ob, 2, none⟩ = some (.int .i64 q.n) ∧ V.cell? ⟨ob, 3, none⟩ = some (.int .i64 q.v))) (by kernel_rfl) OCd.out.cells (fun hHeld => ?_)
        refine wpAnyH_take (i := 0) (v := ?_) rfl (by kernel_rfl) (by kernel_rfl) (by kernel_rfl) (fun _ _ _ h => h) (Or.inl ⟨by rfl, ?_⟩) (by assumption) ?_
        rotate_left
        · (intro w hSw; (try dsimp only at hSw); go_simp; try with_reducible rfl)
        try simp only [List.getElem_toArray, List.getElem_cons_zero, List.getElem_cons_succ, Act.put, List.setIfInBounds_toArray, List.set_cons_zero, List.set_cons_succ]
        refine wpAnyH_take (i := 1) (v := ?_) rfl (by kernel_rfl) (by kernel_rfl) (by kernel_rfl) (fun _ _ _ h => h) (Or.inl ⟨by rfl, ?_⟩) (by assumption) ?_
        rotate_left
        · (intro w hSw; (try dsimp only at hSw); go_simp; try with_reducible rfl)
        try simp only [List.getElem_toArray, List.getElem_cons_zero, List.getElem_cons_succ, Act.put, List.setIfInBounds_toArray, List.set_cons_zero, List.set_cons_succ]
        refine wpAnyH_take (i := 2) (v := ?_) rfl (by kernel_rfl) (by kernel_rfl) (by kernel_rfl) (fun _ _ _ h => h) (Or.inl ⟨by rfl, ?_⟩) (by assumption) ?_
        rotate_left
        · (intro w hSw; (try dsimp only at hSw); go_simp; try with_reducible rfl)
        try simp only [List.getElem_toArray, List.getElem_cons_zero, List.getElem_cons_succ, Act.put, List.setIfInBounds_toArray, List.set_cons_zero, List.set_cons_succ]
        refine wpAnyH_take (i := 3) (v := ?_) rfl (by kernel_rfl) (by kernel_rfl) (by kernel_rfl) (fun _ _ _ h => h) (Or.inl ⟨by rfl, ?_⟩) (by assumption) ?_
        rotate_left
        · (intro w hSw; (try dsimp only at hSw); go_simp; try with_reducible rfl)
        try simp only [List.getElem_toArray, List.getElem_cons_zero, List.getElem_cons_succ, Act.put, List.setIfInBounds_toArray, List.set_cons_zero, List.set_cons_succ]
        refine wpAnyH_take (i := 4) (v := ?_) rfl (by kernel_rfl) (by kernel_rfl) (by kernel_rfl) (fun _ _ _ h => h) (Or.inl ⟨by rfl, ?_⟩) (by assumption) ?_
        rotate_left
        · (intro w hSw; (try dsimp only at hSw); go_simp; try with_reducible rfl)
        try simp only [List.getElem_toArray, List.getElem_cons_zero, List.getElem_cons_succ, Act.put, List.setIfInBounds_toArray, List.set_cons_zero, List.set_cons_succ]
        refine wpAnyH_take (i := 5) (v := ?_) rfl (by kernel_rfl) (by kernel_rfl) (by kernel_rfl) (fun _ _ _ h => h) (Or.inl ⟨by rfl, ?_⟩) (by assumption) ?_
        rotate_left
        · (intro w hSw; (try dsimp only at hSw); go_simp; try with_reducible rfl)
        try simp only [List.getElem_toArray, List.getElem_cons_zero, List.getElem_cons_succ, Act.put, List.setIfInBounds_toArray, List.set_cons_zero, List.set_cons_succ]
        refine wpAnyH_take (i := 6) (v := ?_) rfl (by kernel_rfl) (by kernel_rfl) (by kernel_rfl) (fun _ _ _ h => h) (Or.inl ⟨by rfl, ?_⟩) (by assumption) ?_
        rotate_left
        · (intro w hSw; (try dsimp only at hSw); go_simp; try with_reducible rfl)
        try simp only [List.getElem_toArray, List.getElem_cons_zero, List.getElem_cons_succ, Act.put, List.setIfInBounds_toArray, List.set_cons_zero, List.set_cons_succ]
        refine wpAnyH_take (i := 8) (v := ?_) rfl (by kernel_rfl) (by kernel_rfl) (by kernel_rfl) (fun _ _ _ h => h) (Or.inl ⟨by rfl, ?_⟩) (by assumption) ?_
        rotate_left
        · (intro w hSw; (try dsimp only at hSw); go_simp; try with_reducible rfl)
        try simp only [List.getElem_toArray, List.getElem_cons_zero, List.getElem_cons_succ, Act.put, List.setIfInBounds_toArray, List.set_cons_zero, List.set_cons_succ]
        refine wpAnyH_take (i := 9) (v := ?_) rfl (by kernel_rfl) (by kernel_rfl) (by kernel_rfl) (fun _ _ _ h => h) (Or.inl ⟨by rfl, ?_⟩) (by assumption) ?_
        rotate_left
        · (intro w hSw; (try dsimp only at hSw); go_simp; try with_reducible rfl)
        try simp only [List.getElem_toArray, List.getElem_cons_zero, List.getElem_cons_succ, Act.put, List.setIfInBounds_toArray, List.set_cons_zero, List.set_cons_succ]
        refine wpAnyH_take (i := 10) (v := ?_) rfl (by kernel_rfl) (by kernel_rfl) (by kernel_rfl) (fun _ _ _ h => h) (Or.inl ⟨by rfl, ?_⟩) (by assumption) ?_
        rotate_left
        · (intro w hSw; (try dsimp only at hSw); go_simp; try with_reducible rfl)
        try simp only [List.getElem_toArray, List.getElem_cons_zero, List.getElem_cons_succ, Act.put, List.setIfInBounds_toArray, List.set_cons_zero, List.set_cons_succ]
        refine wpAnyH_take (i := 11) (v := ?_) rfl (by kernel_rfl) (by kernel_rfl) (by kernel_rfl) (fun _ _ _ h => h) (Or.inl ⟨by rfl, ?_⟩) (by assumption) ?_
        rotate_left
        · (intro w hSw; (try dsimp only at hSw); go_simp; try with_reducible rfl)
        try simp only [List.getElem_toArray, List.getElem_cons_zero, List.getElem_cons_succ, Act.put, List.setIfInBounds_toArray, List.set_cons_zero, List.set_cons_succ]
        refine wpAnyH_take (i := 12) (v := ?_) rfl (by kernel_rfl) (by kernel_rfl) (by kernel_rfl) (fun _ _ _ h => h) (Or.inl ⟨by rfl, ?_⟩) (by assumption) ?_
        rotate_left
        · (intro w hSw; (try dsimp only at hSw); go_simp; try with_reducible rfl)
        try simp only [List.getElem_toArray, List.getElem_cons_zero, List.getElem_cons_succ, Act.put, List.setIfInBounds_toArray, List.set_cons_zero, List.set_cons_succ]
        refine wpAnyH_take (i := 13) (v := ?_) rfl (by kernel_rfl) (by kernel_rfl) (by kernel_rfl) (fun _ _ _ h => h) (Or.inl ⟨by rfl, ?_⟩) (by assumption) ?_
        rotate_left
        · (intro w hSw; (try dsimp only at hSw); go_simp; try with_reducible rfl)
        try simp only [List.getElem_toArray, List.getElem_cons_zero, List.getElem_cons_succ, Act.put, List.setIfInBounds_toArray, List.set_cons_zero, List.set_cons_succ]
        refine wpAnyH_take (i := 14) (v := ?_) rfl (by kernel_rfl) (by kernel_rfl) (by kernel_rfl) (fun _ _ _ h => h) (Or.inl ⟨by rfl, ?_⟩) (by assumption) ?_
        rotate_left
        · (intro w hSw; (try dsimp only at hSw); go_simp; try with_reducible rfl)
        try simp only [List.getElem_toArray, List.getElem_cons_zero, List.getElem_cons_succ, Act.put, List.setIfInBounds_toArray, List.set_cons_zero, List.set_cons_succ]
        refine wpAnyH_ready (rs := [7]) (by kernel_rfl) (by simp) ?_
        refine AllReadyH.cons (o := _) rfl (fun K hK => ?_) AllReadyH.nil
        go_simp
        refine Calls.mono HAD.out ?_
        rintro e W3 ⟨rfl, t', h9⟩
        go_wp2_with fail
        refine hK _ _ h9.out.2.2.cells (fun hHeld2 => ?_)
        clear hK K hHeld
        try simp only [List.getElem_toArray, List.getElem_cons_zero, List.getElem_cons_succ, Act.put, List.setIfInBounds_toArray, List.set_cons_zero, List.set_cons_succ]
        refine wpAnyH_ready (rs := [15]) (by kernel_rfl) (by simp) ?_
        refine AllReadyH.cons (o := _) rfl (fun K hK => ?_) AllReadyH.nil
        go_simp
        refine Calls.mono (does_radd HSO.out.1 HSO.out.2 hqn h9.out) ?_
        rintro e W4 ⟨rfl, h8⟩
        go_wp2_with fail
        refine hK _ _ h8.out.2.cells (fun hHeld3 => ?_)
        clear hK K hHeld2
        try simp only [List.getElem_toArray, List.getElem_cons_zero, List.getElem_cons_succ, Act.put, List.setIfInBounds_toArray, List.set_cons_zero, List.set_cons_succ]
        refine wpAnyH_take (i := 16) (v := ?_) rfl (by kernel_rfl) (by kernel_rfl) (by kernel_rfl) (fun _ _ _ h => h) (Or.inl ⟨by rfl, ?_⟩) (by assumption) ?_
        rotate_left
        · (intro w hSw; (try dsimp only at hSw); go_simp; try with_reducible rfl)
        try simp only [List.getElem_toArray, List.getElem_cons_zero, List.getElem_cons_succ, Act.put, List.setIfInBounds_toArray, List.set_cons_zero, List.set_cons_succ]
        refine wpAnyH_done (by kernel_rfl) ?_ _
        go_wp2
        go_roundw
        case rel => exact ⟨k + 1, t', by omega, by go_num, h8.out.1⟩
        case measure => simp [intOf]; omega
      by_cases g2 : q.k = 2
      · rw [g2] at c0 TWo OCo
        go_wp2_with fail
        obtain ⟨Wo, hWo⟩ : ∃ z, z = wr.alloc (.cells #[.int .i64 2, .int .u32 q.p.toNat, .int .i64 q.n, .int .i64 q.v] 32) := ⟨_, rfl⟩
        obtain ⟨ob, hob⟩ : ∃ z, z = wr.heap.size := ⟨_, rfl⟩
        rw [← hWo] at TWo OCo ⊢
        rw [← hob] at OCo ⊢
        clear hWo hob c0 c1 c2 c3
        have TWd : Hid (TR w Wo.drew tb xb t t.ents) := TWo.out.below (Below.refl _ _).drew
        have OCd : Hid (OC Wo.drew ob q) := OCo.out
        have HAD : Hid _ := does_rem TWd.out OCd.out
        refine wp_region_held_drew (S := (fun V => V.cell? ⟨ob, 1, none⟩ = some (.int .u32 q.p.toNat) ∧ V.cell? ⟨ob, 2, none⟩ = some (.int .i64 q.n) ∧ V.cell? ⟨ob, 3, none⟩ = some (.int .i64 q.v))) (by kernel_rfl) OCd.out.cells (fun hHeld => ?_)
        refine wpAnyH_take (i := 0) (v := ?_) rfl (by kernel_rfl) (by kernel_rfl) (by kernel_rfl) (fun _ _ _ h => h) (Or.inl ⟨by rfl, ?_⟩) (by assumption) ?_
        rotate_left
        · (intro w hSw; (try dsimp only at hSw); go_simp; try with_reducible rfl)
        try simp only [List.getElem_toArray, List.getElem_cons_zero, List.getElem_cons_succ, Act.put, List.setIfInBounds_toArray, List.set_cons_zero, List.set_cons_succ]
        refine wpAnyH_take (i := 1) (v := ?_) rfl (by kernel_rfl) (by kernel_rfl) (by kernel_rfl) (fun _ _ _ h => h) (Or.inl ⟨by rfl, ?_⟩) (by assumption) ?_
        rotate_left
        · (intro w hSw; (try dsimp only at hSw); go_simp; try with_reducible rfl)
        try simp only [List.getElem_toArray, List.getElem_cons_zero, List.getElem_cons_succ, Act.put, List.setIfInBounds_toArray, List.set_cons_zero, List.set_cons_succ]
        refine wpAnyH_take (i := 2) (v := ?_) rfl (by kernel_rfl) (by kernel_rfl) (by kernel_rfl) (fun _ _ _ h => h) (Or.inl ⟨by rfl, ?_⟩) (by assumption) ?_
        rotate_left
        · (intro w hSw; (try dsimp only at hSw); go_simp; try with_reducible rfl)
        try simp only [List.getElem_toArray, List.getElem_cons_zero, List.getElem_cons_succ, Act.put, List.setIfInBounds_toArray, List.set_cons_zero, List.set_cons_succ]
        refine wpAnyH_take (i := 3) (v := ?_) rfl (by kernel_rfl) (by kernel_rfl) (by kernel_rfl) (fun _ _ _ h => h) (Or.inl ⟨by rfl, ?_⟩) (by assumption) ?_
        rotate_left
        · (intro w hSw; (try dsimp only at hSw); go_simp; try with_reducible rfl)
        try simp only [List.getElem_toArray, List.getElem_cons_zero, List.getElem_cons_succ, Act.put, List.setIfInBounds_toArray, List.set_cons_zero, List.set_cons_succ]
        refine wpAnyH_take (i := 4) (v := ?_) rfl (by kernel_rfl) (by kernel_rfl) (by kernel_rfl) (fun _ _ _ h => h) (Or.inl ⟨by rfl, ?_⟩) (by assumption) ?_
        rotate_left
        · (intro w hSw; (try dsimp only at hSw); go_simp; try with_reducible rfl)
        try simp only [List.getElem_toArray, List.getElem_cons_zero, List.getElem_cons_succ, Act.put, List.setIfInBounds_toArray, List.set_cons_zero, List.set_cons_succ]
        refine wpAnyH_take (i := 6) (v := ?_) rfl (by kernel_rfl) (by kernel_rfl) (by kernel_rfl) (fun _ _ _ h => h) (Or.inl ⟨by rfl, ?_⟩) (by assumption) ?_
        rotate_left
        · (intro w hSw; (try dsimp only at hSw); go_simp; try with_reducible rfl)
        try simp only [List.getElem_toArray, List.getElem_cons_zero, List.getElem_cons_succ, Act.put, List.setIfInBounds_toArray, List.set_cons_zero, List.set_cons_succ]
        refine wpAnyH_take (i := 7) (v := ?_) rfl (by kernel_rfl) (by kernel_rfl) (by kernel_rfl) (fun _ _ _ h => h) (Or.inl ⟨by rfl, ?_⟩) (by assumption) ?_
        rotate_left
        · (intro w hSw; (try dsimp only at hSw); go_simp; try with_reducible rfl)
        try simp only [List.getElem_toArray, List.getElem_cons_zero, List.getElem_cons_succ, Act.put, List.setIfInBounds_toArray, List.set_cons_zero, List.set_cons_succ]
        refine wpAnyH_take (i := 8) (v := ?_) rfl (by kernel_rfl) (by kernel_rfl) (by kernel_rfl) (fun _ _ _ h => h) (Or.inl ⟨by rfl, ?_⟩) (by assumption) ?_
        rotate_left
        · (intro w hSw; (try dsimp only at hSw); go_simp; try with_reducible rfl)
        try simp only [List.getElem_toArray, List.getElem_cons_zero, List.getElem_cons_succ, Act.put, List.setIfInBounds_toArray, List.set_cons_zero, List.set_cons_succ]
        refine wpAnyH_take (i := 9) (v := ?_) rfl (by kernel_rfl) (by kernel_rfl) (by kernel_rfl) (fun _ _ _ h => h) (Or.inl ⟨by rfl, ?_⟩) (by assumption) ?_
        rotate_left
        · (intro w hSw; (try dsimp only at hSw); go_simp; try with_reducible rfl)
        try simp only [List.getElem_toArray, List.getElem_cons_zero, List.getElem_cons_succ, Act.put, List.setIfInBounds_toArray, List.set_cons_zero, List.set_cons_succ]
        refine wpAnyH_take (i := 10) (v := ?_) rfl (by kernel_rfl) (by kernel_rfl) (by kernel_rfl) (fun _ _ _ h => h) (Or.inl ⟨by rfl, ?_⟩) (by assumption) ?_
        rotate_left
        · (intro w hSw; (try dsimp only at hSw); go_simp; try with_reducible rfl)
        try simp only [List.getElem_toArray, List.getElem_cons_zero, List.getElem_cons_succ, Act.put, List.setIfInBounds_toArray, List.set_cons_zero, List.set_cons_succ]
        refine wpAnyH_ready (rs := [5]) (by kernel_rfl) (by simp) ?_
        refine AllReadyH.cons (o := _) rfl (fun K hK => ?_) AllReadyH.nil
        go_simp
        refine Calls.mono HAD.out ?_
        rintro e W3 ⟨rfl, t', h9⟩
        go_wp2_with fail
        refine hK _ _ h9.out.2.2.cells (fun hHeld2 => ?_)
        clear hK K hHeld
        try simp only [List.getElem_toArray, List.getElem_cons_zero, List.getElem_cons_succ, Act.put, List.setIfInBounds_toArray, List.set_cons_zero, List.set_cons_succ]
        refine wpAnyH_ready (rs := [11]) (by kernel_rfl) (by simp) ?_
        refine AllReadyH.cons (o := _) rfl (fun K hK => ?_) AllReadyH.nil
        go_simp
        refine Calls.mono (does_rrem HSO.out.1 hqn h9.out) ?_
        rintro e W4 ⟨rfl, h8⟩
        go_wp2_with fail
        refine hK _ _ h8.out.2.cells (fun hHeld3 => ?_)
        clear hK K hHeld2
        try simp only [List.getElem_toArray, List.getElem_cons_zero, List.getElem_cons_succ, Act.put, List.setIfInBounds_toArray, List.set_cons_zero, List.set_cons_succ]
        refine wpAnyH_take (i := 12) (v := ?_) rfl (by kernel_rfl) (by kernel_rfl) (by kernel_rfl) (fun _ _ _ h => h) (Or.inl ⟨by rfl, ?_⟩) (by assumption) ?_
        rotate_left
        · (intro w hSw; (try dsimp only at hSw); go_simp; try with_reducible rfl)
        try simp only [List.getElem_toArray, List.getElem_cons_zero, List.getElem_cons_succ, Act.put, List.setIfInBounds_toArray, List.set_cons_zero, List.set_cons_succ]
        refine wpAnyH_done (by kernel_rfl) ?_ _
        go_wp2
        go_roundw
        case rel => exact ⟨k + 1, t', by omega, by go_num, h8.out.1⟩
        case measure => simp [intOf]; omega
      by_cases g3 : q.k = 3
      · rw [g3] at c0 TWo OCo
        go_wp2_with fail
        refine (find_v TWo.out.tab q.p).mono ?_
        rintro e W3 ⟨x, ok, rfl, fx, b3⟩
        have TW3 := TWo.out.below b3
        have OC3 : OC W3 wr.heap.size q := OCo.out.keep (Keeps.of_below [] b3) (by simp)
        have TW4 := TW3.below (below1 W3 (.cells #[.int .u32 x.1.toNat, .int .i64 x.2.1, .int .i64 x.2.2] 37))
        have OC4 : OC (W3.alloc (.cells #[.int .u32 x.1.toNat, .int .i64 x.2.1, .int .i64 x.2.2] 37)) wr.heap.size q := OC3.keep (Keeps.of_below [] (below1 W3 _)) (by simp)
        have o1 := OC4.cells.1
        have bl3 := TW3.bel.size
        have hl3 := lt_of_heap OC3
        have HT4 : Hid _ := TW4
        have FX : Hid _ := fx
        clear TWo OCo TW3 TW4 b3 fx OC3 OC4 c0 c1 c2 c3
        go_wp2_with fail
        obtain ⟨qa, qc, hR⟩ := HT4.out.ref
        refine (rFind_any hR HSO.out.2 q.p).mono ?_
        clear hR
        rintro e W5 ⟨y, oy, rfl, fy, b5⟩
        obtain ⟨rfl, rfl⟩ := findV_one HSO.out.1 HSO.out.2 FX.out fy
        have TW5 := HT4.out.below b5
        have TW6 := TW5.below (below1 W5 (.cells #[.int .u32 x.1.toNat, .int .i64 x.2.1, .int .i64 x.2.2] 37))
        have HT6 : Hid _ := TW6
        have r3 : (W5.alloc (.cells #[.int .u32 x.1.toNat, .int .i64 x.2.1, .int .i64 x.2.2] 37)).heap[W3.heap.size]? = some (.cells #[.int .u32 x.1.toNat, .int .i64 x.2.1, .int .i64 x.2.2] 37 (0, 0)) := by
          have := b5.size
          simp at this
          exact (heap_alloc_old _ _ (by omega)).trans ((b5.block _ (by simp)).trans (heap_alloc_new _ _))
        have HR3 : Hid _ := r3
        have r5 : (W5.alloc (.cells #[.int .u32 x.1.toNat, .int .i64 x.2.1, .int .i64 x.2.2] 37)).heap[W5.heap.size]? = some (.cells #[.int .u32 x.1.toNat, .int .i64 x.2.1, .int .i64 x.2.2] 37 (0, 0)) := heap_alloc_new _ _
        have HR5 : Hid _ := r5
        clear TW5 TW6 b5 fy HT4 r3 r5
        go_wp2_with (first
          | refine wpList_load_row rfl 37 _ rfl W3.heap.size rfl 37 #[.int .u32 x.1.toNat, .int .i64 x.2.1, .int .i64 x.2.2] (0, 0) _ HR3.out Try.underlying37 rfl size3 ?_
          | refine wpList_load_row rfl 37 _ rfl W5.heap.size rfl 37 #[.int .u32 x.1.toNat, .int .i64 x.2.1, .int .i64 x.2.2] (0, 0) _ HR5.out Try.underlying37 rfl size3 ?_
          | fail)
        exact ⟨⟨k + 1, t, by omega, by go_num, HT6⟩, by simp [intOf]; omega⟩
      by_cases g4 : q.k = 4
      · rw [g4] at c0 TWo OCo
        go_wp2_with fail
        refine (get_any TWo.out.tab q.p q.n).mono ?_
        rintro e W3 ⟨v, ok, rfl, gv, b3⟩
        have HT3 : Hid _ := TWo.out.below b3
        have OC3 : OC W3 wr.heap.size q := OCo.out.keep (Keeps.of_below [] b3) (by simp)
        have o1 := OC3.cells.1
        have o2 := OC3.cells.2.1
        have hl3 := lt_of_heap OC3
        have GV : Hid _ := gv
        clear TWo OCo b3 gv OC3 c0 c1 c2 c3
        go_wp2_with fail
        obtain ⟨qa, qc, hR⟩ := HT3.out.ref
        refine (rget_any hR q.p q.n).mono ?_
        clear hR
        rintro e W5 ⟨v', ok', rfl, gv', rfl⟩
        obtain ⟨rfl, rfl⟩ := getV_one HSO.out.1 GV.out gv'
        clear gv' GV
        go_wp2
        exact ⟨⟨k + 1, t, by omega, by go_num, HT3⟩, by simp [intOf]; omega⟩
      · go_wp2_with fail
        refine (TR.looks TWo.out).mono ?_
        rintro e W3 ⟨rfl, h3⟩
        clear TWo OCo c0 c1 c2 c3
        go_wp2
        exact ⟨⟨k + 1, t, by omega, by go_num, h3⟩, by simp [intOf]; omega⟩
    · have hnlt : ¬ (k : Int) < (n1 : Int) := by omega
      go_wp2_with fail
      rw [← e1.out]; clear e1 d1
      go_wp2_with fail
      refine (TR.looks TW.out).mono ?_
      rintro e W3 ⟨rfl, h3⟩
      clear TW
      go_wp2
      go_ret
      exact ⟨rfl, h3.out.bel⟩
end Go.Proofs.Ytlopnagajhjmmaa
