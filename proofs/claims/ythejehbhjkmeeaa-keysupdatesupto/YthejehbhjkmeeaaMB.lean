/- The law KeysApart, but for its frame. Conditions: the rows can be read. -/
import Derived.Test.YthejehbhjkmeeaaMA
import Derived.Test.YthejehbhjkmeeaaKY
namespace Go.Proofs.Ythejehbhjkmeeaa
open Go.RowKit
theorem wp_append_run {op : Oper} {a : Act} {w w' : World} {K : Act → World → Prop} {Q : Exit → Act → World → Prop} (s x : Operand) (t : TypeId) (ho : op.op = Op.call { callee := Callee.builtin Builtin.append, args := #[s, x], argTypes := #[t, t] })
    (sv xv : Value) (hs : a.eval s = sv) (hx : a.eval x = xv) (v : Value) (hr : (Builtin.append_ #[t, t] op.type #[sv, xv]).run Try.prog w = .ok v w')
    (h : K (a.put op.dst v) w') : op.wp Try.prog a w K Q := by
  unfold Oper.wp
  simp [execOp, ho, resolve, invoke, builtin, hs, hx, hr, Result.andThen]
  exact h
/-- Two lists one behind the other, in new memory. -/
theorem both_lists {W : World} {a1 a2 : Option Addr} {n1 c1 n2 c2 : Nat} {A B : List Ky} (h1 : KS W a1 n1 A) (h2 : KS W a2 n2 B) (hl : n1 + n2 ≤ 5864062014805) :
    ∃ b1 d1 V1, (Builtin.append_ #[22, 22] 22 #[.slice (some ⟨W.heap.size, 0, none⟩) 0 0, .slice a1 n1 c1]).run Try.prog (W.alloc (.cells #[] 37)) = .ok (.slice b1 n1 d1) V1 ∧ Below W.heap.size W V1 ∧
    ∃ b2 d2 V2, (Builtin.append_ #[22, 22] 22 #[.slice b1 n1 d1, .slice a2 n2 c2]).run Try.prog V1 = .ok (.slice b2 (n1 + n2) d2) V2 ∧ Below W.heap.size W V2 ∧ KS V2 b2 (n1 + n2) (A ++ B) := by
  obtain ⟨b1, d1, V1, r1, o1, g1⟩ := run_append_ks _ W.heap.size _ [] (own_empty W W.heap.size (Nat.le_refl _)) a1 n1 c1 A (h1.below (below1 _ _)) (by simp; omega) (by simp)
  have B1 : Below W.heap.size W V1 := (below1 _ _).grown g1 (by simp) (fun q hq => (World.ownsRow.lt (own_empty W W.heap.size (Nat.le_refl _)) q hq).1)
  simp only [List.length_nil, Nat.zero_add, List.nil_append] at r1 o1
  have hA := h1.len
  have hB := h2.len
  obtain ⟨b2, d2, V2, r2, o2, g2⟩ := run_append_ks _ W.heap.size _ A o1 a2 n2 c2 B (h2.below B1) (by omega) B1.size
  have B2 : Below W.heap.size W V2 := B1.grown g2 B1.size (fun q hq => (World.ownsRow.lt o1 q hq).1)
  rw [hA] at r2 o2
  refine ⟨b1, d1, V1, r1, B1, b2, d2, V2, r2, B2, ?_⟩
  exact (own_ks o2 (by rw [List.length_append]; omega) (fun k hk => by
    rcases List.mem_append.1 hk with hk | hk
    · exact h1.short k hk
    · exact h2.short k hk)).1
theorem num_ne {A : List Ky} (h : (A.map (·.v)).Nodup) {i j : Nat} {x y : Ky} (hx : A[i]? = some x) (hy : A[j]? = some y) (hij : i < j) : (x.v == y.v) = false := by
  rw [List.nodup_iff_pairwise_ne, List.pairwise_map] at h
  have := List.pairwise_iff_getElem.1 h i j (List.getElem?_eq_some_iff.1 hx).1 (List.getElem?_eq_some_iff.1 hy).1 hij
  rw [(List.getElem?_eq_some_iff.1 hx).2, (List.getElem?_eq_some_iff.1 hy).2] at this
  simp [this]
set_option linter.unusedSimpArgs false in
set_option maxRecDepth 20000 in
set_option maxHeartbeats 8000000 in
theorem apart_any (a2 : Option Addr) (n2 c2 : Nat) (rs : List Rw) (w : World) (hR : RS w a2 n2 rs) :
    Calls Try.prog 6 #[.slice a2 n2 c2] w fun e w' => e = .returned (.bool true) ∧ Below w.heap.size w w' := by
  have hlr := hR.len
  have hrr := hR.room
  have UPD : Hid (Calls Try.prog 10 #[.agg nilK, .slice a2 n2 c2] w fun e w' => UpdPost w (updS [] [] [] [] rs) e w') :=
    update_any _ _ _ _ [] [] [] [] _ _ _ rs w KV.nil KV.nil KV.nil KV.nil hR
  clear hR
  go_enter Try.func6, Try.ntmps6
  go_wp2_with fail
  refine Calls.mono UPD.out ?_
  rintro e W1 hp
  clear UPD
  unfold UpdPost at hp
  cases hu : updS [] [] [] [] rs with
  | none =>
    have hfull := upd_full hu
    have hfI : (65535 : Int) < n2 := by omega
    rw [hu] at hp
    obtain ⟨hb1, rfl⟩ := hp
    have BW1 : Hid _ := hb1
    clear hb1 hu hfull
    unfold nilK
    go_wp2_with fail
    refine (lives_any _).mono ?_
    rintro e W2 ⟨rfl, hb2⟩
    have BW2 : Hid (Below w.heap.size w W2) := BW1.out.trans (((below1 _ _).trans (hb2.mono (by simp))).mono BW1.out.size)
    clear hb2
    go_wp2
    go_ret
    exact ⟨rfl, BW2.out⟩
  | some x =>
    rw [hu] at hp
    obtain ⟨hb1, g1, g2, g3, g4, rfl, k1, k2, k3, k4⟩ := hp
    obtain ⟨o1, q1, z1, rfl⟩ := keys_slices k1
    obtain ⟨o2, q2, z2, rfl⟩ := keys_slices k2
    obtain ⟨o3, q3, z3, rfl⟩ := keys_slices k3
    obtain ⟨o4, q4, z4, rfl⟩ := keys_slices k4
    have BW1 : Hid _ := hb1
    have HRT : Hid _ := chkE_zero.1 (upd_right hu)
    have hls := upd_lens hu
    have K1 : Hid (KS W1 o1 q1 x.1) := kv_ks k1
    have K2 : Hid (KS W1 o2 q2 x.2.1) := kv_ks k2
    have K3 : Hid (KS W1 o3 q3 x.2.2.1) := kv_ks k3
    have K4 : Hid (KS W1 o4 q4 x.2.2.2) := kv_ks k4
    have e1 := K1.out.len
    have e2 := K2.out.len
    have e3 := K3.out.len
    have e4 := K4.out.len
    have hs12 : q1 + q2 ≤ 1034834473201 := by omega
    have hs34 : q3 + q4 ≤ 1034834473201 := by omega
    clear hb1 hu k1 k2 k3 k4 hls
    go_wp2_with fail
    refine (lives_any _).mono ?_
    rintro e W2 ⟨rfl, hb2⟩
    have B12 : Hid (Below W1.heap.size W1 W2) := (below1 _ _).trans (hb2.mono (by simp))
    have HC2 : Hid (W2.heap[W1.heap.size]? = some (.cells #[.slice o1 q1 z1, .slice o2 q2 z2, .slice o3 q3 z3, .slice o4 q4 z4] 24 (0, 0))) := (hb2.block _ (by simp)).trans (heap_alloc_new _ _)
    clear hb2
    have HW2 : Hid _ := HC2.out
    clear HC2
    obtain ⟨bA1, dA1, V11, r1, BV1, bB1, dB1, W3, r2, BV2, KSB⟩ := both_lists (W := W2.drew) (c1 := z1) (c2 := z2) (K1.out.below (B12.out.trans (((Below.refl _ _).drew).mono B12.out.size))) (K2.out.below (B12.out.trans (((Below.refl _ _).drew).mono B12.out.size))) (by omega)
    have HSW : Hid (∀ V, Below W2.heap.size W2 V → V.cell? ⟨W1.heap.size, 0, none⟩ = some (.slice o1 q1 z1) ∧ V.cell? ⟨W1.heap.size, 1, none⟩ = some (.slice o2 q2 z2)) := fun V hV => by
      have := (hV.block _ (lt_of_heap HW2.out)).trans HW2.out
      exact ⟨cell_row this 0, cell_row this 1⟩
    obtain ⟨N1, hN1⟩ : ∃ N, q1 + q2 = N := ⟨_, rfl⟩
    rw [hN1] at r2 KSB
    have R1 : Hid _ := r1
    have R2 : Hid _ := r2
    have BB1 : Hid _ := BV1
    have BB2 : Hid _ := BV2
    have KB1 : Hid _ := KSB
    clear r1 r2 BV1 BV2 KSB
    go_wp2_with fail
    refine wp_region_held_drew (S := (fun V => V.cell? ⟨W1.heap.size, 0, none⟩ = some (.slice o1 q1 z1) ∧ V.cell? ⟨W1.heap.size, 1, none⟩ = some (.slice o2 q2 z2))) (by kernel_rfl) ?_ (fun hHeld => ?_)
    · exact HSW.out _ (Below.refl _ _).drew
    refine wpAnyH_take (i := 1) (v := ?_) rfl (by kernel_rfl) (by kernel_rfl) (by kernel_rfl) (fun _ _ _ h => h) (Or.inl ⟨by rfl, ?_⟩) (by assumption) ?_
    rotate_left
    · (intro w hSw; (try dsimp only at hSw); go_simp; try with_reducible rfl)
    try simp only [List.getElem_toArray, List.getElem_cons_zero, List.getElem_cons_succ, Act.put, List.setIfInBounds_toArray, List.set_cons_zero, List.set_cons_succ]
    refine wpAnyH_take (i := 2) (v := ?_) rfl (by kernel_rfl) (by kernel_rfl) (by kernel_rfl) (fun _ _ _ h => h) (Or.inl ⟨by rfl, ?_⟩) (by assumption) ?_
    rotate_left
    · (intro w hSw; (try dsimp only at hSw); go_simp; try with_reducible rfl)
    try simp only [List.getElem_toArray, List.getElem_cons_zero, List.getElem_cons_succ, Act.put, List.setIfInBounds_toArray, List.set_cons_zero, List.set_cons_succ]
    refine wpAnyH_take (i := 4) (v := ?_) rfl (by kernel_rfl) (by kernel_rfl) (by kernel_rfl) (fun _ _ _ h => h) (Or.inl ⟨by rfl, ?_⟩) (by assumption) ?_
    rotate_left
    · (intro w hSw; (try dsimp only at hSw); go_simp; try with_reducible rfl)
    try simp only [List.getElem_toArray, List.getElem_cons_zero, List.getElem_cons_succ, Act.put, List.setIfInBounds_toArray, List.set_cons_zero, List.set_cons_succ]
    refine wpAnyH_take (i := 5) (v := ?_) rfl (by kernel_rfl) (by kernel_rfl) (by kernel_rfl) (fun _ _ _ h => h) (Or.inl ⟨by rfl, ?_⟩) (by assumption) ?_
    rotate_left
    · (intro w hSw; (try dsimp only at hSw); go_simp; try with_reducible rfl)
    try simp only [List.getElem_toArray, List.getElem_cons_zero, List.getElem_cons_succ, Act.put, List.setIfInBounds_toArray, List.set_cons_zero, List.set_cons_succ]
    refine wpAnyH_ready (rs := [0]) (by kernel_rfl) (by simp) ?_
    refine AllReadyH.cons (o := _) rfl (fun K hK => ?_) AllReadyH.nil
    go_simp
    refine hK.out _ _ (HSW.out _ ((Below.refl _ _).drew.alloc (by simp) _)) (fun hHeld2 => ?_)
    clear hK K hHeld
    have hHeld := hHeld2
    clear hHeld2
    try simp only [List.getElem_toArray, List.getElem_cons_zero, List.getElem_cons_succ, Act.put, List.setIfInBounds_toArray, List.set_cons_zero, List.set_cons_succ]
    refine wpAnyH_ready (rs := [3]) (by kernel_rfl) (by simp) ?_
    refine AllReadyH.cons (o := _) rfl (fun K hK => ?_) AllReadyH.nil
    refine wp_append_run _ _ 22 rfl _ _ rfl rfl _ R1.out ?_
    refine hK.out _ _ (HSW.out _ ((Below.refl _ _).drew.trans (BB1.out.mono (by simp)))) (fun hHeld2 => ?_)
    clear hK K hHeld
    have hHeld := hHeld2
    clear hHeld2
    try simp only [List.getElem_toArray, List.getElem_cons_zero, List.getElem_cons_succ, Act.put, List.setIfInBounds_toArray, List.set_cons_zero, List.set_cons_succ]
    refine wpAnyH_ready (rs := [6]) (by kernel_rfl) (by simp) ?_
    refine AllReadyH.cons (o := _) rfl (fun K hK => ?_) AllReadyH.nil
    refine wp_append_run _ _ 22 rfl _ _ rfl rfl _ R2.out ?_
    refine hK.out _ _ (HSW.out _ ((Below.refl _ _).drew.trans (BB2.out.mono (by simp)))) (fun hHeld2 => ?_)
    clear hK K hHeld
    have hHeld := hHeld2
    clear hHeld2
    try simp only [List.getElem_toArray, List.getElem_cons_zero, List.getElem_cons_succ, Act.put, List.setIfInBounds_toArray, List.set_cons_zero, List.set_cons_succ]
    refine wpAnyH_take (i := 7) (v := ?_) rfl (by kernel_rfl) (by kernel_rfl) (by kernel_rfl) (fun _ _ _ h => h) (Or.inl ⟨by rfl, ?_⟩) (by assumption) ?_
    rotate_left
    · (intro w hSw; (try dsimp only at hSw); go_simp; try with_reducible rfl)
    try simp only [List.getElem_toArray, List.getElem_cons_zero, List.getElem_cons_succ, Act.put, List.setIfInBounds_toArray, List.set_cons_zero, List.set_cons_succ]
    refine wpAnyH_done (by kernel_rfl) ?_ _
    clear hHeld
    have BW3 : Hid (Below W2.heap.size W2 W3) := (Below.refl _ _).drew.trans (BB2.out.mono (by simp))
    have HW3 : Hid (W3.heap[W1.heap.size]? = some (.cells #[.slice o1 q1 z1, .slice o2 q2 z2, .slice o3 q3 z3, .slice o4 q4 z4] 24 (0, 0))) := (BW3.out.block _ (lt_of_heap HW2.out)).trans HW2.out
    have B1W3 : Hid (Below W1.heap.size W1 W3) := B12.out.trans (BW3.out.mono B12.out.size)
    clear R1 R2 BB1 BB2 HSW
    obtain ⟨bA3, dA3, V13, r1, BV1, bB3, dB3, W4, r2, BV2, KSB⟩ := both_lists (W := W3.drew) (c1 := z3) (c2 := z4) (K3.out.below (B1W3.out.trans (((Below.refl _ _).drew).mono B1W3.out.size))) (K4.out.below (B1W3.out.trans (((Below.refl _ _).drew).mono B1W3.out.size))) (by omega)
    have HSW : Hid (∀ V, Below W3.heap.size W3 V → V.cell? ⟨W1.heap.size, 2, none⟩ = some (.slice o3 q3 z3) ∧ V.cell? ⟨W1.heap.size, 3, none⟩ = some (.slice o4 q4 z4)) := fun V hV => by
      have := (hV.block _ (lt_of_heap HW3.out)).trans HW3.out
      exact ⟨cell_row this 2, cell_row this 3⟩
    obtain ⟨N3, hN3⟩ : ∃ N, q3 + q4 = N := ⟨_, rfl⟩
    rw [hN3] at r2 KSB
    have R1 : Hid _ := r1
    have R2 : Hid _ := r2
    have BB1 : Hid _ := BV1
    have BB2 : Hid _ := BV2
    have KB3 : Hid _ := KSB
    clear r1 r2 BV1 BV2 KSB
    go_wp2_with fail
    refine wp_region_held_drew (S := (fun V => V.cell? ⟨W1.heap.size, 2, none⟩ = some (.slice o3 q3 z3) ∧ V.cell? ⟨W1.heap.size, 3, none⟩ = some (.slice o4 q4 z4))) (by kernel_rfl) ?_ (fun hHeld => ?_)
    · exact HSW.out _ (Below.refl _ _).drew
    refine wpAnyH_take (i := 1) (v := ?_) rfl (by kernel_rfl) (by kernel_rfl) (by kernel_rfl) (fun _ _ _ h => h) (Or.inl ⟨by rfl, ?_⟩) (by assumption) ?_
    rotate_left
    · (intro w hSw; (try dsimp only at hSw); go_simp; try with_reducible rfl)
    try simp only [List.getElem_toArray, List.getElem_cons_zero, List.getElem_cons_succ, Act.put, List.setIfInBounds_toArray, List.set_cons_zero, List.set_cons_succ]
    refine wpAnyH_take (i := 2) (v := ?_) rfl (by kernel_rfl) (by kernel_rfl) (by kernel_rfl) (fun _ _ _ h => h) (Or.inl ⟨by rfl, ?_⟩) (by assumption) ?_
    rotate_left
    · (intro w hSw; (try dsimp only at hSw); go_simp; try with_reducible rfl)
    try simp only [List.getElem_toArray, List.getElem_cons_zero, List.getElem_cons_succ, Act.put, List.setIfInBounds_toArray, List.set_cons_zero, List.set_cons_succ]
    refine wpAnyH_take (i := 4) (v := ?_) rfl (by kernel_rfl) (by kernel_rfl) (by kernel_rfl) (fun _ _ _ h => h) (Or.inl ⟨by rfl, ?_⟩) (by assumption) ?_
    rotate_left
    · (intro w hSw; (try dsimp only at hSw); go_simp; try with_reducible rfl)
    try simp only [List.getElem_toArray, List.getElem_cons_zero, List.getElem_cons_succ, Act.put, List.setIfInBounds_toArray, List.set_cons_zero, List.set_cons_succ]
    refine wpAnyH_take (i := 5) (v := ?_) rfl (by kernel_rfl) (by kernel_rfl) (by kernel_rfl) (fun _ _ _ h => h) (Or.inl ⟨by rfl, ?_⟩) (by assumption) ?_
    rotate_left
    · (intro w hSw; (try dsimp only at hSw); go_simp; try with_reducible rfl)
    try simp only [List.getElem_toArray, List.getElem_cons_zero, List.getElem_cons_succ, Act.put, List.setIfInBounds_toArray, List.set_cons_zero, List.set_cons_succ]
    refine wpAnyH_ready (rs := [0]) (by kernel_rfl) (by simp) ?_
    refine AllReadyH.cons (o := _) rfl (fun K hK => ?_) AllReadyH.nil
    go_simp
    refine hK.out _ _ (HSW.out _ ((Below.refl _ _).drew.alloc (by simp) _)) (fun hHeld2 => ?_)
    clear hK K hHeld
    have hHeld := hHeld2
    clear hHeld2
    try simp only [List.getElem_toArray, List.getElem_cons_zero, List.getElem_cons_succ, Act.put, List.setIfInBounds_toArray, List.set_cons_zero, List.set_cons_succ]
    refine wpAnyH_ready (rs := [3]) (by kernel_rfl) (by simp) ?_
    refine AllReadyH.cons (o := _) rfl (fun K hK => ?_) AllReadyH.nil
    refine wp_append_run _ _ 22 rfl _ _ rfl rfl _ R1.out ?_
    refine hK.out _ _ (HSW.out _ ((Below.refl _ _).drew.trans (BB1.out.mono (by simp)))) (fun hHeld2 => ?_)
    clear hK K hHeld
    have hHeld := hHeld2
    clear hHeld2
    try simp only [List.getElem_toArray, List.getElem_cons_zero, List.getElem_cons_succ, Act.put, List.setIfInBounds_toArray, List.set_cons_zero, List.set_cons_succ]
    refine wpAnyH_ready (rs := [6]) (by kernel_rfl) (by simp) ?_
    refine AllReadyH.cons (o := _) rfl (fun K hK => ?_) AllReadyH.nil
    refine wp_append_run _ _ 22 rfl _ _ rfl rfl _ R2.out ?_
    refine hK.out _ _ (HSW.out _ ((Below.refl _ _).drew.trans (BB2.out.mono (by simp)))) (fun hHeld2 => ?_)
    clear hK K hHeld
    have hHeld := hHeld2
    clear hHeld2
    try simp only [List.getElem_toArray, List.getElem_cons_zero, List.getElem_cons_succ, Act.put, List.setIfInBounds_toArray, List.set_cons_zero, List.set_cons_succ]
    refine wpAnyH_take (i := 7) (v := ?_) rfl (by kernel_rfl) (by kernel_rfl) (by kernel_rfl) (fun _ _ _ h => h) (Or.inl ⟨by rfl, ?_⟩) (by assumption) ?_
    rotate_left
    · (intro w hSw; (try dsimp only at hSw); go_simp; try with_reducible rfl)
    try simp only [List.getElem_toArray, List.getElem_cons_zero, List.getElem_cons_succ, Act.put, List.setIfInBounds_toArray, List.set_cons_zero, List.set_cons_succ]
    refine wpAnyH_done (by kernel_rfl) ?_ _
    clear hHeld
    have BW4 : Hid (Below W3.heap.size W3 W4) := (Below.refl _ _).drew.trans (BB2.out.mono (by simp))
    have HW4 : Hid (W4.heap[W1.heap.size]? = some (.cells #[.slice o1 q1 z1, .slice o2 q2 z2, .slice o3 q3 z3, .slice o4 q4 z4] 24 (0, 0))) := (BW4.out.block _ (lt_of_heap HW3.out)).trans HW3.out
    have B1W4 : Hid (Below W1.heap.size W1 W4) := B1W3.out.trans (BW4.out.mono B1W3.out.size)
    clear R1 R2 BB1 BB2 HSW
    have KC1 : Hid (KS W4 bB1 N1 (x.1 ++ x.2.1)) := KB1.out.below BW4.out
    go_wp2_with fail
    go_loopw [7] (fun i wr => ∃ k : Nat, k ≤ N1 ∧ i = .int .i64 k ∧ Hid (Below W4.heap.size W4 wr)) (fun i _ => N1 - (intOf i).toNat)
    case atStart => exact ⟨0, by omega, rfl, Below.refl _ _⟩
    case round =>
      obtain ⟨k, hk, rfl, HB⟩ := hrel
      by_cases hlt : k < N1
      · have hkI : (k : Int) < N1 := by omega
        have hk0 : (0 : Int) ≤ k := by omega
        go_wp2_with fail
        rename World => wo
        go_loopw [8] (fun i wr => ∃ m : Nat, m ≤ k ∧ i = .int .i64 m ∧ Hid (Below W4.heap.size W4 wr)) (fun i _ => k - (intOf i).toNat)
        case atStart => exact ⟨0, by omega, rfl, HB⟩
        case round =>
          obtain ⟨m, hm, rfl, HB2⟩ := hrel
          by_cases hmt : m < k
          · have hmk : (m : Int) < k := by omega
            have hmI : (m : Int) < N1 := by omega
            have hm0 : (0 : Int) ≤ m := by omega
            have hlen := KC1.out.len
            obtain ⟨ox, hox⟩ := getK (os := x.1 ++ x.2.1) (k := m) (by omega)
            obtain ⟨oy, hoy⟩ := getK (os := x.1 ++ x.2.1) (k := k) (by omega)
            have hne := num_ne HRT.out.1.nd hox hoy hmt
            obtain ⟨g9, f9, eb, c0, c1, hl1⟩ := (KC1.out.below HB2.out).at hox
            obtain ⟨g8, f8, eb2, d0, d1, hl2⟩ := (KC1.out.below HB2.out).at hoy
            rw [eb] at eb2
            cases eb2
            subst eb
            clear hox hoy hlen
            generalize ox.v = xv at *
            generalize oy.v = yv at *
            go_wp2_with fail
            go_quiet (fail)
            go_wp2
            go_roundw
            case rel => exact ⟨m + 1, by omega, by go_num, below_drewN HB2.out _⟩
            case measure => simp [intOf]; omega
          · obtain rfl : k = m := by omega
            go_wp2_with fail
            go_roundw
            case rel => exact ⟨k + 1, by omega, by go_num, HB2⟩
            case measure => simp [intOf]; omega
      · obtain rfl : N1 = k := by omega
        have HB1 : Hid _ := HB.out
        go_wp2_with fail
        rename World => wo
        go_loopw [9] (fun i wr => ∃ k : Nat, k ≤ N3 ∧ i = .int .i64 k ∧ Hid (Below W4.heap.size W4 wr)) (fun i _ => N3 - (intOf i).toNat)
        case atStart => exact ⟨0, by omega, rfl, HB1⟩
        case round =>
          obtain ⟨k, hk, rfl, HB⟩ := hrel
          by_cases hlt : k < N3
          · have hkI : (k : Int) < N3 := by omega
            have hk0 : (0 : Int) ≤ k := by omega
            go_wp2_with fail
            rename World => wo
            go_loopw [10] (fun i wr => ∃ m : Nat, m ≤ k ∧ i = .int .i64 m ∧ Hid (Below W4.heap.size W4 wr)) (fun i _ => k - (intOf i).toNat)
            case atStart => exact ⟨0, by omega, rfl, HB⟩
            case round =>
              obtain ⟨m, hm, rfl, HB2⟩ := hrel
              by_cases hmt : m < k
              · have hmk : (m : Int) < k := by omega
                have hmI : (m : Int) < N3 := by omega
                have hm0 : (0 : Int) ≤ m := by omega
                have hlen := KB3.out.len
                obtain ⟨ox, hox⟩ := getK (os := x.2.2.1 ++ x.2.2.2) (k := m) (by omega)
                obtain ⟨oy, hoy⟩ := getK (os := x.2.2.1 ++ x.2.2.2) (k := k) (by omega)
                have hne := num_ne HRT.out.2.nd hox hoy hmt
                obtain ⟨g9, f9, eb, c0, c1, hl1⟩ := (KB3.out.below HB2.out).at hox
                obtain ⟨g8, f8, eb2, d0, d1, hl2⟩ := (KB3.out.below HB2.out).at hoy
                rw [eb] at eb2
                cases eb2
                subst eb
                clear hox hoy hlen
                generalize ox.v = xv at *
                generalize oy.v = yv at *
                go_wp2_with fail
                go_quiet (fail)
                go_wp2
                go_roundw
                case rel => exact ⟨m + 1, by omega, by go_num, below_drewN HB2.out _⟩
                case measure => simp [intOf]; omega
              · obtain rfl : k = m := by omega
                go_wp2_with fail
                go_roundw
                case rel => exact ⟨k + 1, by omega, by go_num, HB2⟩
                case measure => simp [intOf]; omega
          · obtain rfl : N3 = k := by omega
            have HBL : Hid _ := HB.out
            go_wp2_with fail
            rename World => wo
            go_loopw [11] (fun i wr => ∃ k : Nat, k ≤ q3 ∧ i = .int .i64 k ∧ Hid (Below W4.heap.size W4 wr)) (fun i _ => q3 - (intOf i).toNat)
            case atStart => exact ⟨0, by omega, rfl, HBL⟩
            case round =>
              obtain ⟨k, hk, rfl, HB⟩ := hrel
              have hC := (HB.out.block _ (lt_of_heap HW4.out)).trans HW4.out
              have cC : wr.cell? ⟨W1.heap.size, 2, none⟩ = some (.slice o3 q3 z3) := cell_row hC 2
              have hlC := lt_of_heap hC
              have B1r : Below W1.heap.size W1 wr := B1W4.out.trans (HB.out.mono B1W4.out.size)
              have BWr : Hid (Below w.heap.size w wr) := BW1.out.trans (B1r.mono BW1.out.size)
              clear hC
              by_cases hlt : k < q3
              · have hkI : (k : Int) < q3 := by omega
                have hk0 : (0 : Int) ≤ k := by omega
                obtain ⟨o, ho⟩ := getK (os := x.2.2.1) (k := k) (by omega)
                have K3r := K3.out.below B1r
                obtain ⟨b9, off9, e9, c0, c1, hbl⟩ := K3r.at ho
                have HNM : Hid (nameV x.2.2.1 o.v = .tuple #[.string o.n, .bool true]) := by
                  show _ = _
                  unfold nameV
                  rw [nameK_of (by have := HRT.out.2.nd; rw [List.map_append] at this; exact (List.nodup_append.1 this).1) (List.mem_of_getElem? ho)]
                have HFN : Hid (findV x.2.2.1 o.n = .tuple #[.int .i64 o.v, .bool true]) := by
                  show _ = _
                  unfold findV
                  rw [(findK_iff (rising_names HRT.out.2.ra)).2 (List.mem_of_getElem? ho)]
                have NAM : Hid (∀ W v, Below W1.heap.size W1 W → Calls Try.prog 15 #[.slice o3 q3 z3, .int .i64 v] W fun e w' => e = .returned (nameV x.2.2.1 v) ∧ Below W.heap.size W w') := fun W v hW => name_any _ _ _ _ v W (K3.out.below hW)
                have FND : Hid (∀ W s, Below W1.heap.size W1 W → Calls Try.prog 13 #[.slice o3 q3 z3, .string s] W fun e w' => e = .returned (findV x.2.2.1 s) ∧ Below W.heap.size W w') := fun W s hW => find_any _ _ _ _ s W (K3.out.below hW)
                have B1R : Hid _ := B1r
                clear ho K3r B1r
                obtain ⟨on, hon⟩ : ∃ on, o.n = on := ⟨_, rfl⟩
                obtain ⟨ov, hov⟩ : ∃ ov, o.v = ov := ⟨_, rfl⟩
                rw [hon, hov] at HNM HFN
                rw [hon] at c0
                rw [hov] at c1
                clear hon hov
                rw [e9] at cC NAM FND K3
                subst e9
                have HSW : Hid (∀ V, Below wr.heap.size wr V → V.cell? ⟨W1.heap.size, 2, none⟩ = some (.slice (some ⟨b9, off9, none⟩) q3 z3) ∧ V.cell? ⟨b9, off9 + k * 2 + 1, none⟩ = some (.int .i64 ov)) := fun V hV =>
                  ⟨(hV.cell (p := ⟨W1.heap.size, 2, none⟩) hlC).trans cC, (hV.cell (p := ⟨b9, off9 + k * 2 + 1, none⟩) hbl).trans c1⟩
                go_wp2_with fail
                refine wp_region_held_drew (S := (fun V => V.cell? ⟨W1.heap.size, 2, none⟩ = some (.slice (some ⟨b9, off9, none⟩) q3 z3) ∧ V.cell? ⟨b9, off9 + k * 2 + 1, none⟩ = some (.int .i64 ov))) (by kernel_rfl) ?_ (fun hHeld => ?_)
                · exact HSW.out _ (Below.refl _ _).drew
                refine wpAnyH_take (i := 0) (v := ?_) rfl (by kernel_rfl) (by kernel_rfl) (by kernel_rfl) (fun _ _ _ h => h) (Or.inl ⟨by rfl, ?_⟩) (by assumption) ?_
                rotate_left
                · (intro w hSw; (try dsimp only at hSw); go_simp; try with_reducible rfl)
                try simp only [List.getElem_toArray, List.getElem_cons_zero, List.getElem_cons_succ, Act.put, List.setIfInBounds_toArray, List.set_cons_zero, List.set_cons_succ]
                refine wpAnyH_take (i := 1) (v := ?_) rfl (by kernel_rfl) (by kernel_rfl) (by kernel_rfl) (fun _ _ _ h => h) (Or.inl ⟨by rfl, ?_⟩) (by assumption) ?_
                rotate_left
                · (intro w hSw; (try dsimp only at hSw); go_simp; try with_reducible rfl)
                try simp only [List.getElem_toArray, List.getElem_cons_zero, List.getElem_cons_succ, Act.put, List.setIfInBounds_toArray, List.set_cons_zero, List.set_cons_succ]
                refine wpAnyH_take (i := 2) (v := ?_) rfl (by kernel_rfl) (by kernel_rfl) (by kernel_rfl) (fun _ _ _ h => h) (Or.inl ⟨by rfl, ?_⟩) (by assumption) ?_
                rotate_left
                · (intro w hSw; (try dsimp only at hSw); go_simp; try with_reducible rfl)
                try simp only [List.getElem_toArray, List.getElem_cons_zero, List.getElem_cons_succ, Act.put, List.setIfInBounds_toArray, List.set_cons_zero, List.set_cons_succ]
                refine wpAnyH_take (i := 3) (v := ?_) rfl (by kernel_rfl) (by kernel_rfl) (by kernel_rfl) (fun _ _ _ h => h) (Or.inl ⟨by rfl, ?_⟩) (by assumption) ?_
                rotate_left
                · (intro w hSw; (try dsimp only at hSw); go_simp; try with_reducible rfl)
                try simp only [List.getElem_toArray, List.getElem_cons_zero, List.getElem_cons_succ, Act.put, List.setIfInBounds_toArray, List.set_cons_zero, List.set_cons_succ]
                refine wpAnyH_take (i := 4) (v := ?_) rfl (by kernel_rfl) (by kernel_rfl) (by kernel_rfl) (fun _ _ _ h => h) (Or.inl ⟨by rfl, ?_⟩) (by assumption) ?_
                rotate_left
                · (intro w hSw; (try dsimp only at hSw); go_simp; try with_reducible rfl)
                try simp only [List.getElem_toArray, List.getElem_cons_zero, List.getElem_cons_succ, Act.put, List.setIfInBounds_toArray, List.set_cons_zero, List.set_cons_succ]
                refine wpAnyH_take (i := 5) (v := ?_) rfl (by kernel_rfl) (by kernel_rfl) (by kernel_rfl) (fun _ _ _ h => h) (Or.inl ⟨by rfl, ?_⟩) (by assumption) ?_
                rotate_left
                · (intro w hSw; (try dsimp only at hSw); go_simp; try with_reducible rfl)
                try simp only [List.getElem_toArray, List.getElem_cons_zero, List.getElem_cons_succ, Act.put, List.setIfInBounds_toArray, List.set_cons_zero, List.set_cons_succ]
                refine wpAnyH_take (i := 6) (v := ?_) rfl (by kernel_rfl) (by kernel_rfl) (by kernel_rfl) (fun _ _ _ h => h) (Or.inl ⟨by rfl, ?_⟩) (by assumption) ?_
                rotate_left
                · (intro w hSw; (try dsimp only at hSw); go_simp; try with_reducible rfl)
                try simp only [List.getElem_toArray, List.getElem_cons_zero, List.getElem_cons_succ, Act.put, List.setIfInBounds_toArray, List.set_cons_zero, List.set_cons_succ]
                refine wpAnyH_take (i := 7) (v := ?_) rfl (by kernel_rfl) (by kernel_rfl) (by kernel_rfl) (fun _ _ _ h => h) (Or.inl ⟨by rfl, ?_⟩) (by assumption) ?_
                rotate_left
                · (intro w hSw; (try dsimp only at hSw); go_simp; try with_reducible rfl)
                try simp only [List.getElem_toArray, List.getElem_cons_zero, List.getElem_cons_succ, Act.put, List.setIfInBounds_toArray, List.set_cons_zero, List.set_cons_succ]
                refine wpAnyH_ready (rs := [8]) (by kernel_rfl) (by simp) ?_
                refine AllReadyH.cons (o := _) rfl (fun K hK => ?_) AllReadyH.nil
                go_simp
                refine (NAM.out _ ov (B1R.out.trans (((Below.refl _ _).drew).mono B1R.out.size))).mono ?_
                rintro e W7 ⟨rfl, hb7⟩
                have B7 : Hid (Below wr.heap.size wr W7) := (Below.refl _ _).drew.trans (hb7.mono (by simp))
                obtain ⟨p1, p2⟩ := HSW.out _ B7.out
                clear hb7
                rw [HNM.out]
                go_wp2_with fail
                refine hK.out _ _ ⟨p1, p2⟩ (fun hHeld2 => ?_)
                clear hK K hHeld
                have hHeld := hHeld2
                clear hHeld2
                try simp only [List.getElem_toArray, List.getElem_cons_zero, List.getElem_cons_succ, Act.put, List.setIfInBounds_toArray, List.set_cons_zero, List.set_cons_succ]
                refine wpAnyH_take (i := 9) (v := ?_) rfl (by kernel_rfl) (by kernel_rfl) (by kernel_rfl) (fun _ _ _ h => h) (Or.inl ⟨by rfl, ?_⟩) (by assumption) ?_
                rotate_left
                · (intro w hSw; (try dsimp only at hSw); go_simp; try with_reducible rfl)
                try simp only [List.getElem_toArray, List.getElem_cons_zero, List.getElem_cons_succ, Act.put, List.setIfInBounds_toArray, List.set_cons_zero, List.set_cons_succ]
                refine wpAnyH_take (i := 10) (v := ?_) rfl (by kernel_rfl) (by kernel_rfl) (by kernel_rfl) (fun _ _ _ h => h) (Or.inl ⟨by rfl, ?_⟩) (by assumption) ?_
                rotate_left
                · (intro w hSw; (try dsimp only at hSw); go_simp; try with_reducible rfl)
                try simp only [List.getElem_toArray, List.getElem_cons_zero, List.getElem_cons_succ, Act.put, List.setIfInBounds_toArray, List.set_cons_zero, List.set_cons_succ]
                refine wpAnyH_take (i := 11) (v := ?_) rfl (by kernel_rfl) (by kernel_rfl) (by kernel_rfl) (fun _ _ _ h => h) (Or.inl ⟨by rfl, ?_⟩) (by assumption) ?_
                rotate_left
                · (intro w hSw; (try dsimp only at hSw); go_simp; try with_reducible rfl)
                try simp only [List.getElem_toArray, List.getElem_cons_zero, List.getElem_cons_succ, Act.put, List.setIfInBounds_toArray, List.set_cons_zero, List.set_cons_succ]
                refine wpAnyH_take (i := 12) (v := ?_) rfl (by kernel_rfl) (by kernel_rfl) (by kernel_rfl) (fun _ _ _ h => h) (Or.inl ⟨by rfl, ?_⟩) (by assumption) ?_
                rotate_left
                · (intro w hSw; (try dsimp only at hSw); go_simp; try with_reducible rfl)
                try simp only [List.getElem_toArray, List.getElem_cons_zero, List.getElem_cons_succ, Act.put, List.setIfInBounds_toArray, List.set_cons_zero, List.set_cons_succ]
                refine wpAnyH_take (i := 13) (v := ?_) rfl (by kernel_rfl) (by kernel_rfl) (by kernel_rfl) (fun _ _ _ h => h) (Or.inl ⟨by rfl, ?_⟩) (by assumption) ?_
                rotate_left
                · (intro w hSw; (try dsimp only at hSw); go_simp; try with_reducible rfl)
                try simp only [List.getElem_toArray, List.getElem_cons_zero, List.getElem_cons_succ, Act.put, List.setIfInBounds_toArray, List.set_cons_zero, List.set_cons_succ]
                refine wpAnyH_done (by kernel_rfl) ?_ _
                clear hHeld
                go_wp2_with fail
                refine (FND.out _ on (B1R.out.trans (B7.out.mono B1R.out.size))).mono ?_
                rintro e W8 ⟨rfl, hb8⟩
                have B8 : Hid (Below wr.heap.size wr W8) := B7.out.trans (hb8.mono B7.out.size)
                obtain ⟨p1', p2'⟩ := HSW.out _ B8.out
                have HB8 : Hid (Below W4.heap.size W4 W8) := HB.out.trans (B8.out.mono HB.out.size)
                clear hb8 p1 p2
                rw [HFN.out]
                go_wp2
                go_roundw
                case rel => exact ⟨k + 1, by omega, by go_num, HB8⟩
                case measure => simp [intOf]; omega
              · obtain rfl : q3 = k := by omega
                go_wp2
                go_ret
                exact ⟨rfl, BWr.out⟩
end Go.Proofs.Ythejehbhjkmeeaa
