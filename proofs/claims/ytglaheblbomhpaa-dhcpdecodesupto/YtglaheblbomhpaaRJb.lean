/- The reference's Decode of dhcp, where the first byte is 2. Conditions: the bytes can be read, and are not too many. -/
import Derived.Test.YtglaheblbomhpaaRJr
namespace Go.Proofs.Ytglaheblbomhpaa
open Go.RowKit
set_option linter.unusedSimpArgs false in
set_option maxRecDepth 20000 in
set_option maxHeartbeats 8000000 in
theorem rdecode_main2 (w : World) (b off n cap : Nat) (zs : List Int) (h : BS w (some ⟨b, off, none⟩) n zs) (hcap : n ≤ cap) (hn : 240 ≤ n) (hm : n ≤ 2000000) (c0 : zs.getD 0 0 = 2) (c1 : zs.getD 1 0 = 1) (c2 : zs.getD 2 0 = 6) (c3 : zs.getD 3 0 = 0) (ck : num ((zs.drop 236).take 4) = 1669485411) :
    Calls Try.prog 8 #[.slice (some ⟨b, off, none⟩) n cap] w fun e w' => RDPost w zs e w' := by
  have hl := h.len
  have HBS : Hid _ := h
  have hB := below1 w (.cells #[.int .i64 0, .int .u32 0, .int .i64 0, .int .i64 0, .int .u32 0, .int .u32 0, .int .u32 0, .int .u32 0, .int .u64 0, .slice none 0 0] 27)
  have hcell : ∀ j, j < n → w.cell? ⟨b, off + j, none⟩ = some (.int .u8 (zs.getD j 0)) := fun j hj => by
    rcases h.cells with h0 | ⟨b', off', e, hc⟩
    · omega
    · cases e; exact hc j (by omega)
  have hbl : b < w.heap.size := cell_lt (hcell 0 (by omega))
  have d0 := hcell 0 (by omega)
  have d1 := hcell 1 (by omega)
  have d2 := hcell 2 (by omega)
  have d3 := hcell 3 (by omega)
  rw [Nat.add_zero] at d0
  have n1 : (240 : Int) ≤ n := by omega
  have n2 : (240 : Int) ≤ cap := by omega
  have n3 : ¬ cap = 236 := by omega
  have n4 : ¬ cap = 8 := by omega
  have n5 : ¬ cap = 10 := by omega
  have n6 : ¬ cap = 28 := by omega
  have n7 : (10 : Int) ≤ cap := by omega
  have n8 : (12 : Int) ≤ cap := by omega
  have n9 : (34 : Int) ≤ cap := by omega
  have n10 : (0 : Int) < n := by omega
  have HA1 : Hid (∀ W, Below w.heap.size w W → Calls Try.prog 22 #[.slice (some ⟨b, off, none⟩) n cap, .int .i64 4] W fun e w' => e = .returned (.int .u32 (num ((zs.drop 4).take 4))) ∧ w' = W) := fun W hW => at4_any W b off n cap zs (h.below hW) hcap 4 (by omega)
  have HN1 : Hid (∀ W, Below w.heap.size w W → Calls Try.prog 21 #[.slice (some ⟨b, off + 8, none⟩) 2 (cap - 8)] W fun e w' => e = .returned (.int .u64 (num ((zs.drop 8).take 2))) ∧ w' = W) := fun W hW => rnum_any _ (((h.below hW).drop (by omega) 8 (by omega)).take 2 (by omega)) (by omega)
  have HN2 : Hid (∀ W, Below w.heap.size w W → Calls Try.prog 21 #[.slice (some ⟨b, off + 10, none⟩) 2 (cap - 10)] W fun e w' => e = .returned (.int .u64 (num ((zs.drop 10).take 2))) ∧ w' = W) := fun W hW => rnum_any _ (((h.below hW).drop (by omega) 10 (by omega)).take 2 (by omega)) (by omega)
  have HA2 : Hid (∀ W, Below w.heap.size w W → Calls Try.prog 22 #[.slice (some ⟨b, off, none⟩) n cap, .int .i64 12] W fun e w' => e = .returned (.int .u32 (num ((zs.drop 12).take 4))) ∧ w' = W) := fun W hW => at4_any W b off n cap zs (h.below hW) hcap 12 (by omega)
  have HA3 : Hid (∀ W, Below w.heap.size w W → Calls Try.prog 22 #[.slice (some ⟨b, off, none⟩) n cap, .int .i64 16] W fun e w' => e = .returned (.int .u32 (num ((zs.drop 16).take 4))) ∧ w' = W) := fun W hW => at4_any W b off n cap zs (h.below hW) hcap 16 (by omega)
  have HA4 : Hid (∀ W, Below w.heap.size w W → Calls Try.prog 22 #[.slice (some ⟨b, off, none⟩) n cap, .int .i64 20] W fun e w' => e = .returned (.int .u32 (num ((zs.drop 20).take 4))) ∧ w' = W) := fun W hW => at4_any W b off n cap zs (h.below hW) hcap 20 (by omega)
  have HA5 : Hid (∀ W, Below w.heap.size w W → Calls Try.prog 22 #[.slice (some ⟨b, off, none⟩) n cap, .int .i64 24] W fun e w' => e = .returned (.int .u32 (num ((zs.drop 24).take 4))) ∧ w' = W) := fun W hW => at4_any W b off n cap zs (h.below hW) hcap 24 (by omega)
  have HN3 : Hid (∀ W, Below w.heap.size w W → Calls Try.prog 21 #[.slice (some ⟨b, off + 28, none⟩) 6 (cap - 28)] W fun e w' => e = .returned (.int .u64 (num ((zs.drop 28).take 6))) ∧ w' = W) := fun W hW => rnum_any _ (((h.below hW).drop (by omega) 28 (by omega)).take 6 (by omega)) (by omega)
  have HCK : Hid _ := fun W hW => rnum_any (w := W) (cap - 236) (((h.below hW).drop (by omega) 236 (by omega)).take 4 (by omega)) (by omega)
  have w2 := num_bd2' h.fits 8
  have w3 := num_bd2' h.fits 10
  have HFV : Hid (∀ v, fixV2 zs v = .agg #[.int .i64 (zs.getD 0 0), .int .u32 (num ((zs.drop 4).take 4)), .int .i64 (num ((zs.drop 8).take 2)), .int .i64 (num ((zs.drop 10).take 2)), .int .u32 (num ((zs.drop 12).take 4)), .int .u32 (num ((zs.drop 16).take 4)), .int .u32 (num ((zs.drop 20).take 4)), .int .u32 (num ((zs.drop 24).take 4)), .int .u64 (num ((zs.drop 28).take 6)), v]) := fun v => rfl
  rw [ck] at HCK
  generalize num ((zs.drop 4).take 4) = m1 at *
  generalize num ((zs.drop 8).take 2) = m2 at *
  generalize num ((zs.drop 10).take 2) = m3 at *
  generalize num ((zs.drop 12).take 4) = m4 at *
  generalize num ((zs.drop 16).take 4) = m5 at *
  generalize num ((zs.drop 20).take 4) = m6 at *
  generalize num ((zs.drop 24).take 4) = m7 at *
  generalize num ((zs.drop 28).take 6) = m8 at *
  have hx0 : 0 ≤ zs.getD 0 0 ∧ zs.getD 0 0 ≤ 255 := h.fits 0
  generalize zs.getD 0 0 = x0 at *
  rw [c1] at d1
  rw [c2] at d2
  rw [c3] at d3
  clear h hcell c1 c2 c3 ck
  have wm2 : IntKind.i64.wrap m2 = m2 := by simp [IntKind.wrap, IntKind.bits, IntKind.signed]; omega
  have wm3 : IntKind.i64.wrap m3 = m3 := by simp [IntKind.wrap, IntKind.bits, IntKind.signed]; omega
  have HB0 : Hid (Below w.heap.size w ((w.alloc (.cells #[.int .i64 0, .int .u32 0, .int .i64 0, .int .i64 0, .int .u32 0, .int .u32 0, .int .u32 0, .int .u32 0, .int .u64 0, .slice none 0 0] 27)).drew)) := hB.drew
  have HBA : Hid (Below w.heap.size w (((w.alloc (.cells #[.int .i64 0, .int .u32 0, .int .i64 0, .int .i64 0, .int .u32 0, .int .u32 0, .int .u32 0, .int .u32 0, .int .u64 0, .slice none 0 0] 27)).drew).alloc (.cells #[.int .i64 0, .int .u32 0, .int .i64 0, .int .i64 0, .int .u32 0, .int .u32 0, .int .u32 0, .int .u32 0, .int .u64 0, .slice none 0 0] 27))) := HB0.out.alloc (by simp) _
  have HBB : Hid (Below w.heap.size w (((w.alloc (.cells #[.int .i64 0, .int .u32 0, .int .i64 0, .int .i64 0, .int .u32 0, .int .u32 0, .int .u32 0, .int .u32 0, .int .u64 0, .slice none 0 0] 27)).drew).alloc (.cells #[.int .i64 x0, .int .u32 m1, .int .i64 m2, .int .i64 m3, .int .u32 m4, .int .u32 m5, .int .u32 m6, .int .u32 m7, .int .u64 m8, .slice none 0 0] 27))) := HB0.out.alloc (by simp) _
  have HS0 : Hid (((w.alloc (.cells #[.int .i64 0, .int .u32 0, .int .i64 0, .int .i64 0, .int .u32 0, .int .u32 0, .int .u32 0, .int .u32 0, .int .u64 0, .slice none 0 0] 27)).drew).cell? ⟨b, off, none⟩ = some (.int .u8 x0)) := (HB0.out.cell (p := ⟨b, off, none⟩) hbl).trans d0
  have HSA : Hid ((((w.alloc (.cells #[.int .i64 0, .int .u32 0, .int .i64 0, .int .i64 0, .int .u32 0, .int .u32 0, .int .u32 0, .int .u32 0, .int .u64 0, .slice none 0 0] 27)).drew).alloc (.cells #[.int .i64 0, .int .u32 0, .int .i64 0, .int .i64 0, .int .u32 0, .int .u32 0, .int .u32 0, .int .u32 0, .int .u64 0, .slice none 0 0] 27)).cell? ⟨b, off, none⟩ = some (.int .u8 x0)) := (HBA.out.cell (p := ⟨b, off, none⟩) hbl).trans d0
  have HSB : Hid ((((w.alloc (.cells #[.int .i64 0, .int .u32 0, .int .i64 0, .int .i64 0, .int .u32 0, .int .u32 0, .int .u32 0, .int .u32 0, .int .u64 0, .slice none 0 0] 27)).drew).alloc (.cells #[.int .i64 x0, .int .u32 m1, .int .i64 m2, .int .i64 m3, .int .u32 m4, .int .u32 m5, .int .u32 m6, .int .u32 m7, .int .u64 m8, .slice none 0 0] 27)).cell? ⟨b, off, none⟩ = some (.int .u8 x0)) := (HBB.out.cell (p := ⟨b, off, none⟩) hbl).trans d0
  go_enter Try.func8, Try.ntmps8
  subst c0
  go_wp2_with fail
  refine Calls.mono (HCK.out _ hB) ?_
  rintro e w1 ⟨rfl, rfl⟩
  go_wp2_with fail
  rename_i Q3 K3 hK3
  have REST : Hid (K3 { tmps := #[.slice (some ⟨b, off, none⟩) n cap, undef, .pointer (some ⟨w.heap.size, 0, none⟩), .int .i64 0, .pointer (some ⟨w.heap.size + 1, 0, none⟩), undef, .slice (some ⟨b, off, none⟩) n cap, .int .i64 (n : Int), .bool (decide ((n : Int) < 240)), .bool (decide ((n : Int) < 240)), .slice (some ⟨b, off, none⟩) n cap, .pointer (some ⟨b, off, none⟩), .int .u8 2, .bool true, .bool true, .slice (some ⟨b, off, none⟩) n cap, .pointer (some ⟨b, off, none⟩), .int .u8 2, .bool false, .bool false, .bool (decide ((n : Int) < 240)), .bool (decide ((n : Int) < 240)), .slice (some ⟨b, off, none⟩) n cap, .pointer (some ⟨b, off + 1, none⟩), .int .u8 1, .bool false, .bool (decide ((n : Int) < 240)), .bool (decide ((n : Int) < 240)), .slice (some ⟨b, off, none⟩) n cap, .pointer (some ⟨b, off + 2, none⟩), .int .u8 6, .bool false, .bool (decide ((n : Int) < 240)), .bool (decide ((n : Int) < 240)), .slice (some ⟨b, off, none⟩) n cap, .pointer (some ⟨b, off + 3, none⟩), .int .u8 0, .bool false, .bool (decide ((n : Int) < 240)), .bool (decide ((n : Int) < 240)), .slice (some ⟨b, off, none⟩) n cap, .slice (some ⟨b, off + 236, none⟩) 4 (cap - 236), .int .u64 1669485411, .bool false, .bool (decide ((n : Int) < 240)), undef, .slice (some ⟨b, off, none⟩) n cap, .pointer (some ⟨b, off, none⟩), .int .u8 2, .int .i64 2, .slice (some ⟨b, off, none⟩) n cap, .int .u32 m1, .slice (some ⟨b, off, none⟩) n cap, .slice (some ⟨b, off + 8, none⟩) 2 (cap - 8), .int .u64 m2, .int .i64 m2, .slice (some ⟨b, off, none⟩) n cap, .slice (some ⟨b, off + 10, none⟩) 2 (cap - 10), .int .u64 m3, .int .i64 m3, .slice (some ⟨b, off, none⟩) n cap, .int .u32 m4, .slice (some ⟨b, off, none⟩) n cap, .int .u32 m5, .slice (some ⟨b, off, none⟩) n cap, .int .u32 m6, .slice (some ⟨b, off, none⟩) n cap, .int .u32 m7, .slice (some ⟨b, off, none⟩) n cap, .slice (some ⟨b, off + 28, none⟩) 6 (cap - 28), .int .u64 m8, .agg #[.int .i64 2, .int .u32 m1, .int .i64 m2, .int .i64 m3, .int .u32 m4, .int .u32 m5, .int .u32 m6, .int .u32 m7, .int .u64 m8, .slice none 0 0], undef, undef, undef, undef, undef, undef, undef, undef, undef, undef, undef, undef, undef, undef, undef, undef, undef, undef, undef, undef, undef, undef, undef, undef, undef, undef, undef, undef, undef, undef, undef, undef, undef, undef, undef, undef, undef, undef, undef, undef, undef, undef, undef, undef, undef, undef, undef, undef, undef, undef, undef, undef, undef, undef, undef, undef, undef, undef, undef, undef, undef, undef, undef, undef, undef, undef, undef, undef, undef, undef, undef], defers := [] } (((w.alloc (.cells #[.int .i64 0, .int .u32 0, .int .i64 0, .int .i64 0, .int .u32 0, .int .u32 0, .int .u32 0, .int .u32 0, .int .u64 0, .slice none 0 0] 27)).drew).alloc (.cells #[.int .i64 2, .int .u32 m1, .int .i64 m2, .int .i64 m3, .int .u32 m4, .int .u32 m5, .int .u32 m6, .int .u32 m7, .int .u64 m8, .slice none 0 0] 27))) := by
    refine hK3 _ _ ?_
    have RD0 : Hid (RDs w n zs 240 [] (.slice none 0 0) #[.int .i64 2, .int .u32 m1, .int .i64 m2, .int .i64 m3, .int .u32 m4, .int .u32 m5, .int .u32 m6, .int .u32 m7, .int .u64 m8, (.slice none 0 0)] (((w.alloc (.cells #[.int .i64 0, .int .u32 0, .int .i64 0, .int .i64 0, .int .u32 0, .int .u32 0, .int .u32 0, .int .u32 0, .int .u64 0, .slice none 0 0] 27)).drew).alloc (.cells #[.int .i64 2, .int .u32 m1, .int .i64 m2, .int .i64 m3, .int .u32 m4, .int .u32 m5, .int .u32 m6, .int .u32 m7, .int .u64 m8, .slice none 0 0] 27))) := by
      refine ⟨?_, by have := heap_alloc_new ((w.alloc (.cells #[.int .i64 0, .int .u32 0, .int .i64 0, .int .i64 0, .int .u32 0, .int .u32 0, .int .u32 0, .int .u32 0, .int .u64 0, .slice none 0 0] 27)).drew) (.cells #[.int .i64 2, .int .u32 m1, .int .i64 m2, .int .i64 m3, .int .u32 m4, .int .u32 m5, .int .u32 m6, .int .u32 m7, .int .u64 m8, .slice none 0 0] 27); simpa using this, World.ownsRow_nil _ _ _ _, HBB.out, ?_, by simp⟩
      · exact (heap_alloc_old _ _ (by simp)).trans (heap_alloc_new w _)
      · cases parseO (zs.drop 240) <;> simp
    obtain ⟨WQ, hWQ⟩ : ∃ WQ, WQ = ((w.alloc (.cells #[.int .i64 0, .int .u32 0, .int .i64 0, .int .i64 0, .int .u32 0, .int .u32 0, .int .u32 0, .int .u32 0, .int .u64 0, .slice none 0 0] 27)).drew).alloc (.cells #[.int .i64 2, .int .u32 m1, .int .i64 m2, .int .i64 m3, .int .u32 m4, .int .u32 m5, .int .u32 m6, .int .u32 m7, .int .u64 m8, .slice none 0 0] 27) := ⟨_, rfl⟩
    rw [← hWQ] at RD0 ⊢
    clear hWQ HA1 HN1 HN2 HA2 HA3 HA4 HA5 HN3 HCK HB0 HBA HBB HS0 HSA HSB hK3
    go_wp2_with fail
    go_loopw [5] (fun i wr => ∃ (k : Nat) (acc : List Opt) (v : Value) (cs : Array Value), 240 ≤ k ∧ k ≤ n ∧ i = .int .i64 k ∧ cs = #[.int .i64 2, .int .u32 m1, .int .i64 m2, .int .i64 m3, .int .u32 m4, .int .u32 m5, .int .u32 m6, .int .u32 m7, .int .u64 m8, v] ∧ Hid (RDs w n zs k acc v cs wr)) (fun i _ => n - (intOf i).toNat)
    case atStart => exact ⟨240, [], _, _, by omega, by omega, rfl, rfl, RD0⟩
    case round =>
      clear RD0
      obtain ⟨k, acc, v, cs, hk0, hkn, rfl, rfl, RD⟩ := hrel
      obtain ⟨va, vc, rfl, _⟩ := own_formD RD.out.own
      have hkI0 : (240 : Int) ≤ k := by omega
      rcases (by omega : k = n ∨ k < n) with rfl | hlt
      · have hkI : ¬ (k : Int) < k := by omega
        have hnone : Hid (parseO (zs.drop 240) = none) := by show _ = _; rw [RD.out.same, List.drop_of_length_le (by omega), parse_nil]; rfl
        have HRr : Hid _ := RD.out.hR
        have HBl : Hid _ := RD.out.bel
        clear RD
        go_wp2_with (first
          | (refine wpList_store_msg rfl 27 _ _ rfl w.heap.size zeroArr zeroArr 27 rfl rfl HRr.out size10d rfl (by kernel_rfl) ?_; intro W2 y1 y2 y3 y4)
          | fail)
        refine bodyPost_ret (results_msg (p := 2) (u := 3) rfl _ _ w.heap.size zeroArr rfl y1 rfl) rfl ?_
        refine ⟨HBl.out.trans y4, ?_⟩
        rw [hnone.out]
        rfl

      · have hkI : (k : Int) < n := by omega
        have hcz := (HBS.out.below RD.out.bel)
        have CELL : Hid (∀ V, Below w.heap.size w V → ∀ j, j < n → V.cell? ⟨b, off + j, none⟩ = some (.int .u8 (zs.getD j 0))) := fun V hV j hj => by
          rcases (HBS.out.below hV).cells with h0 | ⟨b', off', e, hc⟩
          · omega
          · cases e; exact hc j (by omega)
        have hck := CELL.out wr RD.out.bel k hlt
        have HD : Hid _ := drop_get (zs := zs) (k := k) (by omega)
        have hzb := HBS.out.fits k
        generalize hz : zs.getD k 0 = z at *
        by_cases h255 : z = 255
        · subst h255
          have hsome : Hid (parseO (zs.drop 240) = some acc) := by show _ = _; rw [RD.out.same, HD.out, parse_end]; simp
          have HRr : Hid _ := RD.out.hR
          have HMm : Hid _ := RD.out.hM
          have HBl : Hid _ := RD.out.bel
          have HOw : Hid _ := RD.out.own
          have FEW : Hid _ := RD.out.few
          clear RD HD CELL hcz
          go_wp2_with (first
            | (refine wpList_load_row rfl 27 _ rfl (w.heap.size + 1) rfl 27 #[.int .i64 2, .int .u32 m1, .int .i64 m2, .int .i64 m3, .int .u32 m4, .int .u32 m5, .int .u32 m6, .int .u32 m7, .int .u64 m8, (.slice va acc.length vc)] (0, 0) _ HMm.out Try.underlying27 rfl size10d ?_)
            | (refine wpList_store_msg rfl 27 _ _ rfl w.heap.size zeroArr #[.int .i64 2, .int .u32 m1, .int .i64 m2, .int .i64 m3, .int .u32 m4, .int .u32 m5, .int .u32 m6, .int .u32 m7, .int .u64 m8, (.slice va acc.length vc)] 27 rfl rfl HRr.out size10d rfl (by kernel_rfl) ?_; intro W2 y1 y2 y3 y4)
            | fail)
          refine bodyPost_ret (results_msg (p := 2) (u := 3) rfl _ _ w.heap.size #[.int .i64 2, .int .u32 m1, .int .i64 m2, .int .i64 m3, .int .u32 m4, .int .u32 m5, .int .u32 m6, .int .u32 m7, .int .u64 m8, (.slice va acc.length vc)] rfl y1 rfl) rfl ?_
          refine ⟨HBl.out.trans y4, ?_⟩
          rw [hsome.out]
          refine ⟨va, vc, by rw [HFV.out]; rfl, os_ownD HOw.out (by have := FEW.out; omega) (fun j hj => y2 j (by omega))⟩
        · by_cases h00 : z = 0
          · subst h00
            have NEW : Hid (RDs w n zs (k + 1) acc (.slice va acc.length vc) #[.int .i64 2, .int .u32 m1, .int .i64 m2, .int .i64 m3, .int .u32 m4, .int .u32 m5, .int .u32 m6, .int .u32 m7, .int .u64 m8, (.slice va acc.length vc)] wr) := by
              refine ⟨RD.out.hR, RD.out.hM, RD.out.own, RD.out.bel, ?_, by have := RD.out.few; omega⟩
              rw [RD.out.same, HD.out, parse_fill]
            clear RD HD CELL hcz
            go_wp2
            go_roundw
            case rel => exact ⟨k + 1, acc, _, _, by omega, by omega, by go_num, rfl, NEW⟩
            case measure => simp [intOf]; omega
          · by_cases h1 : k + 1 < n
            · have hcl := CELL.out wr RD.out.bel (k + 1) h1
              have HDL : Hid _ := drop_get (zs := zs) (k := k + 1) (by omega)
              have hlb := HBS.out.fits (k + 1)
              obtain ⟨L, hL⟩ : ∃ L : Nat, zs.getD (k + 1) 0 = (L : Int) := ⟨(zs.getD (k + 1) 0).toNat, by omega⟩
              rw [hL] at hcl HDL hlb
              have h1I : (k : Int) + 1 < n := by omega
              by_cases h2 : k + 2 + L ≤ n
              · have h2I : (k : Int) + 2 + L ≤ n := by omega
                have h2c : (k : Int) + 2 + L ≤ cap := by omega
                have wk1 : IntKind.i64.wrap ((k : Int) + 1) = (k : Int) + 1 := by simp [IntKind.wrap, IntKind.bits, IntKind.signed]; omega
                have wk2 : IntKind.i64.wrap ((k : Int) + 2) = (k : Int) + 2 := by simp [IntKind.wrap, IntKind.bits, IntKind.signed]; omega
                have wz : IntKind.i64.wrap z = z := by simp [IntKind.wrap, IntKind.bits, IntKind.signed]; omega
                have tk2 : ((k : Int) + 2).toNat = k + 2 := by omega
                have nk2 : (0 : Int) ≤ (k : Int) + 2 := by omega
                have CK : Hid (∀ V, Below w.heap.size w V → V.cell? ⟨b, off + k, none⟩ = some (.int .u8 z)) := fun V hV => by rw [← hz]; exact CELL.out V hV k hlt
                have CL : Hid (∀ V, Below w.heap.size w V → V.cell? ⟨b, off + (k + 1), none⟩ = some (.int .u8 L)) := fun V hV => by rw [← hL]; exact CELL.out V hV (k + 1) h1
                by_cases hce : cap = k + 2
                · have hL0 : L = 0 := by omega
                  subst hL0
                  have CL0 : Hid (∀ V, Below w.heap.size w V → V.cell? ⟨b, off + (k + 1), none⟩ = some (.int .u8 0)) := fun V hV => CL.out V hV
                  have hcl0 : wr.cell? ⟨b, off + (k + 1), none⟩ = some (.int .u8 0) := hcl
                  have hk2n : (k : Int) + 2 ≤ n := by omega
                  have hk2c : (k : Int) + 2 ≤ cap := by omega
                  have w0 : IntKind.i64.wrap 0 = 0 := by decide
                  have mx : max ((k : Int) + 2) 0 = (k : Int) + 2 := by omega
                  have hceT : (cap = k + 2) = True := by simp [hce]
                  have hc0 : cap - (k + 2) = 0 := by omega
                  clear CL hcl hlb h2I h2c hce
                  have CV : Hid (∀ V, Below w.heap.size w V → (convert 22 9 (.slice (some ⟨b, off, none⟩) 0 0)).run Try.prog V = .ok (.string (strOfNums ((zs.drop (k + 2)).take 0))) V) := fun V hV => run_conv_bs 0 (BS.emptyD (some ⟨b, off, none⟩)) 22 9 5 Try.underlying22 Try.underlying5 Try.underlying9
                  have KS : Hid (∀ V, Below w.heap.size w V → V.cell? ⟨w.heap.size + 1, 9, none⟩ = some (.slice va acc.length vc) → V.cell? ⟨w.heap.size + 1, 9, none⟩ = some (.slice va acc.length vc) ∧ V.cell? ⟨b, off + k, none⟩ = some (.int .u8 z) ∧ V.cell? ⟨b, off + (k + 1), none⟩ = some (.int .u8 0) ∧ (convert 22 9 (.slice (some ⟨b, off, none⟩) 0 0)).run Try.prog V = .ok (.string (strOfNums ((zs.drop (k + 2)).take 0))) V) := fun V hV h9 => ⟨h9, CK.out V hV, CL0.out V hV, CV.out V hV⟩
                  have hHeld := KS.out wr.drew RD.out.bel.drew (cell_row RD.out.hM 9)
                  go_wp2_with fail
                  refine region_but (fun V => V.cell? ⟨w.heap.size + 1, 9, none⟩ = some (.slice va acc.length vc) ∧ V.cell? ⟨b, off + k, none⟩ = some (.int .u8 z) ∧ V.cell? ⟨b, off + (k + 1), none⟩ = some (.int .u8 0) ∧ (convert 22 9 (.slice (some ⟨b, off, none⟩) 0 0)).run Try.prog V = .ok (.string (strOfNums ((zs.drop (k + 2)).take 0))) V) 25 (by kernel_rfl) ?_
                  refine HeldBut.take (i := 0) (v := ?_) rfl (by kernel_rfl) (by kernel_rfl) (by kernel_rfl) (by kernel_rfl) (fun _ _ _ h => h) (Or.inl ⟨by rfl, ?_⟩) (by assumption) ?_
                  rotate_left
                  · (intro w hSw; (try dsimp only at hSw); go_simp; try with_reducible rfl)
                  try simp only [List.getElem_toArray, List.getElem_cons_zero, List.getElem_cons_succ, Act.put, List.setIfInBounds_toArray, List.set_cons_zero, List.set_cons_succ]
                  refine HeldBut.take (i := 1) (v := ?_) rfl (by kernel_rfl) (by kernel_rfl) (by kernel_rfl) (by kernel_rfl) (fun _ _ _ h => h) (Or.inl ⟨by rfl, ?_⟩) (by assumption) ?_
                  rotate_left
                  · (intro w hSw; (try dsimp only at hSw); go_simp; try with_reducible rfl)
                  try simp only [List.getElem_toArray, List.getElem_cons_zero, List.getElem_cons_succ, Act.put, List.setIfInBounds_toArray, List.set_cons_zero, List.set_cons_succ]
                  refine HeldBut.take (i := 2) (v := ?_) rfl (by kernel_rfl) (by kernel_rfl) (by kernel_rfl) (by kernel_rfl) (fun _ _ _ h => h) (Or.inl ⟨by rfl, ?_⟩) (by assumption) ?_
                  rotate_left
                  · (intro w hSw; (try dsimp only at hSw); go_simp; try with_reducible rfl)
                  try simp only [List.getElem_toArray, List.getElem_cons_zero, List.getElem_cons_succ, Act.put, List.setIfInBounds_toArray, List.set_cons_zero, List.set_cons_succ]
                  refine HeldBut.take (i := 3) (v := ?_) rfl (by kernel_rfl) (by kernel_rfl) (by kernel_rfl) (by kernel_rfl) (fun _ _ _ h => h) (Or.inl ⟨by rfl, ?_⟩) (by assumption) ?_
                  rotate_left
                  · (intro w hSw; (try dsimp only at hSw); go_simp; try with_reducible rfl)
                  try simp only [List.getElem_toArray, List.getElem_cons_zero, List.getElem_cons_succ, Act.put, List.setIfInBounds_toArray, List.set_cons_zero, List.set_cons_succ]
                  refine HeldBut.take (i := 4) (v := ?_) rfl (by kernel_rfl) (by kernel_rfl) (by kernel_rfl) (by kernel_rfl) (fun _ _ _ h => h) (Or.inl ⟨by rfl, ?_⟩) (by assumption) ?_
                  rotate_left
                  · (intro w hSw; (try dsimp only at hSw); go_simp; try with_reducible rfl)
                  try simp only [List.getElem_toArray, List.getElem_cons_zero, List.getElem_cons_succ, Act.put, List.setIfInBounds_toArray, List.set_cons_zero, List.set_cons_succ]
                  refine HeldBut.take (i := 5) (v := ?_) rfl (by kernel_rfl) (by kernel_rfl) (by kernel_rfl) (by kernel_rfl) (fun _ _ _ h => h) (Or.inl ⟨by rfl, ?_⟩) (by assumption) ?_
                  rotate_left
                  · (intro w hSw; (try dsimp only at hSw); go_simp; try with_reducible rfl)
                  try simp only [List.getElem_toArray, List.getElem_cons_zero, List.getElem_cons_succ, Act.put, List.setIfInBounds_toArray, List.set_cons_zero, List.set_cons_succ]
                  refine HeldBut.take (i := 6) (v := ?_) rfl (by kernel_rfl) (by kernel_rfl) (by kernel_rfl) (by kernel_rfl) (fun _ _ _ h => h) (Or.inl ⟨by rfl, ?_⟩) (by assumption) ?_
                  rotate_left
                  · (intro w hSw; (try dsimp only at hSw); go_simp; try with_reducible rfl)
                  try simp only [List.getElem_toArray, List.getElem_cons_zero, List.getElem_cons_succ, Act.put, List.setIfInBounds_toArray, List.set_cons_zero, List.set_cons_succ]
                  refine HeldBut.take (i := 7) (v := ?_) rfl (by kernel_rfl) (by kernel_rfl) (by kernel_rfl) (by kernel_rfl) (fun _ _ _ h => h) (Or.inl ⟨by rfl, ?_⟩) (by assumption) ?_
                  rotate_left
                  · (intro w hSw; (try dsimp only at hSw); go_simp; try with_reducible rfl)
                  try simp only [List.getElem_toArray, List.getElem_cons_zero, List.getElem_cons_succ, Act.put, List.setIfInBounds_toArray, List.set_cons_zero, List.set_cons_succ]
                  refine HeldBut.take (i := 8) (v := ?_) rfl (by kernel_rfl) (by kernel_rfl) (by kernel_rfl) (by kernel_rfl) (fun _ _ _ h => h) (Or.inl ⟨by rfl, ?_⟩) (by assumption) ?_
                  rotate_left
                  · (intro w hSw; (try dsimp only at hSw); go_simp; try with_reducible rfl)
                  try simp only [List.getElem_toArray, List.getElem_cons_zero, List.getElem_cons_succ, Act.put, List.setIfInBounds_toArray, List.set_cons_zero, List.set_cons_succ]
                  refine HeldBut.take (i := 9) (v := ?_) rfl (by kernel_rfl) (by kernel_rfl) (by kernel_rfl) (by kernel_rfl) (fun _ _ _ h => h) (Or.inl ⟨by rfl, ?_⟩) (by assumption) ?_
                  rotate_left
                  · (intro w hSw; (try dsimp only at hSw); go_simp; try with_reducible rfl)
                  try simp only [List.getElem_toArray, List.getElem_cons_zero, List.getElem_cons_succ, Act.put, List.setIfInBounds_toArray, List.set_cons_zero, List.set_cons_succ]
                  refine HeldBut.take (i := 10) (v := ?_) rfl (by kernel_rfl) (by kernel_rfl) (by kernel_rfl) (by kernel_rfl) (fun _ _ _ h => h) (Or.inl ⟨by rfl, ?_⟩) (by assumption) ?_
                  rotate_left
                  · (intro w hSw; (try dsimp only at hSw); go_simp; try with_reducible rfl)
                  try simp only [List.getElem_toArray, List.getElem_cons_zero, List.getElem_cons_succ, Act.put, List.setIfInBounds_toArray, List.set_cons_zero, List.set_cons_succ]
                  refine HeldBut.take (i := 11) (v := ?_) rfl (by kernel_rfl) (by kernel_rfl) (by kernel_rfl) (by kernel_rfl) (fun _ _ _ h => h) (Or.inl ⟨by rfl, ?_⟩) (by assumption) ?_
                  rotate_left
                  · (intro w hSw; (try dsimp only at hSw); go_simp; try with_reducible rfl)
                  try simp only [List.getElem_toArray, List.getElem_cons_zero, List.getElem_cons_succ, Act.put, List.setIfInBounds_toArray, List.set_cons_zero, List.set_cons_succ]
                  refine HeldBut.take (i := 12) (v := ?_) rfl (by kernel_rfl) (by kernel_rfl) (by kernel_rfl) (by kernel_rfl) (fun _ _ _ h => h) (Or.inl ⟨by rfl, ?_⟩) (by assumption) ?_
                  rotate_left
                  · (intro w hSw; (try dsimp only at hSw); go_simp; try with_reducible rfl)
                  try simp only [List.getElem_toArray, List.getElem_cons_zero, List.getElem_cons_succ, Act.put, List.setIfInBounds_toArray, List.set_cons_zero, List.set_cons_succ]
                  refine HeldBut.take (i := 13) (v := ?_) rfl (by kernel_rfl) (by kernel_rfl) (by kernel_rfl) (by kernel_rfl) (fun _ _ _ h => h) (Or.inl ⟨by rfl, ?_⟩) (by assumption) ?_
                  rotate_left
                  · (intro w hSw; (try dsimp only at hSw); go_simp; try with_reducible rfl)
                  try simp only [List.getElem_toArray, List.getElem_cons_zero, List.getElem_cons_succ, Act.put, List.setIfInBounds_toArray, List.set_cons_zero, List.set_cons_succ]
                  refine HeldBut.take (i := 14) (v := ?_) rfl (by kernel_rfl) (by kernel_rfl) (by kernel_rfl) (by kernel_rfl) (fun _ _ _ h => h) (Or.inl ⟨by rfl, ?_⟩) (by assumption) ?_
                  rotate_left
                  · (intro w hSw; (try dsimp only at hSw); go_simp; try with_reducible rfl)
                  try simp only [List.getElem_toArray, List.getElem_cons_zero, List.getElem_cons_succ, Act.put, List.setIfInBounds_toArray, List.set_cons_zero, List.set_cons_succ]
                  refine HeldBut.take (i := 15) (v := ?_) rfl (by kernel_rfl) (by kernel_rfl) (by kernel_rfl) (by kernel_rfl) (fun _ _ _ h => h) (Or.inl ⟨by rfl, ?_⟩) (by assumption) ?_
                  rotate_left
                  · (intro w hSw; (try dsimp only at hSw); go_simp; try with_reducible rfl)
                  try simp only [List.getElem_toArray, List.getElem_cons_zero, List.getElem_cons_succ, Act.put, List.setIfInBounds_toArray, List.set_cons_zero, List.set_cons_succ]
                  refine HeldBut.take (i := 16) (v := ?_) rfl (by kernel_rfl) (by kernel_rfl) (by kernel_rfl) (by kernel_rfl) (fun _ _ _ h => h) (Or.inl ⟨by rfl, ?_⟩) (by assumption) ?_
                  rotate_left
                  · (intro w hSw; (try dsimp only at hSw); go_simp; try with_reducible rfl)
                  try simp only [List.getElem_toArray, List.getElem_cons_zero, List.getElem_cons_succ, Act.put, List.setIfInBounds_toArray, List.set_cons_zero, List.set_cons_succ]
                  refine HeldBut.take (i := 17) (v := ?_) rfl (by kernel_rfl) (by kernel_rfl) (by kernel_rfl) (by kernel_rfl) (fun _ _ _ h => h) (Or.inl ⟨by rfl, ?_⟩) (by assumption) ?_
                  rotate_left
                  · (intro w hSw; (try dsimp only at hSw); go_simp; try with_reducible rfl)
                  try simp only [List.getElem_toArray, List.getElem_cons_zero, List.getElem_cons_succ, Act.put, List.setIfInBounds_toArray, List.set_cons_zero, List.set_cons_succ]
                  refine HeldBut.take (i := 18) (v := ?_) rfl (by kernel_rfl) (by kernel_rfl) (by kernel_rfl) (by kernel_rfl) (fun _ _ _ h => h) (Or.inl ⟨by rfl, ?_⟩) (by assumption) ?_
                  rotate_left
                  · (intro w hSw; (try dsimp only at hSw); go_simp; try with_reducible rfl)
                  try simp only [List.getElem_toArray, List.getElem_cons_zero, List.getElem_cons_succ, Act.put, List.setIfInBounds_toArray, List.set_cons_zero, List.set_cons_succ]
                  refine HeldBut.take (i := 19) (v := ?_) rfl (by kernel_rfl) (by kernel_rfl) (by kernel_rfl) (by kernel_rfl) (fun _ _ _ h => h) (Or.inl ⟨by rfl, ?_⟩) (by assumption) ?_
                  rotate_left
                  · (intro w hSw; (try dsimp only at hSw); go_simp; try with_reducible rfl)
                  try simp only [List.getElem_toArray, List.getElem_cons_zero, List.getElem_cons_succ, Act.put, List.setIfInBounds_toArray, List.set_cons_zero, List.set_cons_succ]
                  refine HeldBut.take (i := 20) (v := ?_) rfl (by kernel_rfl) (by kernel_rfl) (by kernel_rfl) (by kernel_rfl) (fun _ _ _ h => h) (Or.inl ⟨by rfl, ?_⟩) (by assumption) ?_
                  rotate_left
                  · (intro w hSw; (try dsimp only at hSw); go_simp; try with_reducible rfl)
                  try simp only [List.getElem_toArray, List.getElem_cons_zero, List.getElem_cons_succ, Act.put, List.setIfInBounds_toArray, List.set_cons_zero, List.set_cons_succ]
                  refine HeldBut.take (i := 21) (v := ?_) rfl (by kernel_rfl) (by kernel_rfl) (by kernel_rfl) (by kernel_rfl) (fun _ _ _ h => h) (Or.inl ⟨by rfl, ?_⟩) (by assumption) ?_
                  rotate_left
                  · (intro w hSw; (try dsimp only at hSw); go_simp; try with_reducible rfl)
                  try simp only [List.getElem_toArray, List.getElem_cons_zero, List.getElem_cons_succ, Act.put, List.setIfInBounds_toArray, List.set_cons_zero, List.set_cons_succ]
                  refine HeldBut.ready (rs := [22]) (by kernel_rfl) (by simp) ?_
                  refine AllBut.cons (o := _) rfl (fun K hK => ?_) AllBut.nil
                  go_simp
                  have hHeld2 := KS.out (wr.drew.alloc (.cells #[.int .i64 0, .int .i64 z, .string (strOfNums ((zs.drop (k + 2)).take 0))] 45)) (RD.out.bel.drew.alloc RD.out.bel.size _) ((below1 _ _).cell (p := ⟨w.heap.size + 1, 9, none⟩) (lt_of_heapD RD.out.hM) |>.trans (cell_row RD.out.hM 9))
                  refine hK.out _ _ (.inr hHeld2) ?_
                  clear hK K hHeld
                  have hHeld := hHeld2
                  clear hHeld2
                  try simp only [List.getElem_toArray, List.getElem_cons_zero, List.getElem_cons_succ, Act.put, List.setIfInBounds_toArray, List.set_cons_zero, List.set_cons_succ]
                  refine HeldBut.ready (rs := [23]) (by kernel_rfl) (by simp) ?_
                  refine AllBut.cons (o := _) rfl (fun K hK => ?_) AllBut.nil
                  have hOw : World.ownsRow (wr.drew.alloc (.cells #[.int .i64 0, .int .i64 z, .string (strOfNums ((zs.drop (k + 2)).take 0))] 45)) (w.heap.size + 1 + 1) 45 3 (.slice va acc.length vc) acc.length (optCells acc) := World.ownsRow.alloc (World.ownsRow.drew RD.out.own) _
                  obtain ⟨a9, c9, W9, hap, hown, hgr⟩ := run_append_opt (wr.drew.alloc (.cells #[.int .i64 0, .int .i64 z, .string (strOfNums ((zs.drop (k + 2)).take 0))] 45)) (w.heap.size + 1 + 1) _ acc hOw wr.heap.size ⟨0, z, (strOfNums ((zs.drop (k + 2)).take 0))⟩ (heap_alloc_new _ _) (by have := RD.out.few; omega) (by have := lt_of_heapD RD.out.hM; simp; omega)
                  have hb9 : Below (w.heap.size + 1 + 1) wr W9 := (((Below.refl _ wr).drew).alloc (by have := lt_of_heapD RD.out.hM; simp; omega) _).grown hgr (by have := lt_of_heapD RD.out.hM; simp; omega) (fun j hj => (World.ownsRow.lt hOw j hj).1)
                  have hM9 := (hb9.block (w.heap.size + 1) (by omega)).trans RD.out.hM
                  have hR9 : Hid _ := (hb9.block w.heap.size (by omega)).trans RD.out.hR
                  have hB9 : Hid (Below w.heap.size w W9) := RD.out.bel.trans (hb9.mono (by omega))
                  have hHeld2 := KS.out W9 hB9.out (cell_row hM9 9)
                  refine wp_append_runD _ _ 25 rfl _ _ rfl rfl _ hap ?_
                  refine hK.out _ _ (.inr hHeld2) ?_
                  clear hK K hHeld
                  have hHeld := hHeld2
                  clear hHeld2
                  try simp only [List.getElem_toArray, List.getElem_cons_zero, List.getElem_cons_succ, Act.put, List.setIfInBounds_toArray, List.set_cons_zero, List.set_cons_succ]
                  refine HeldBut.take (i := 24) (v := ?_) rfl (by kernel_rfl) (by kernel_rfl) (by kernel_rfl) (by kernel_rfl) (fun _ _ _ h => h) (Or.inl ⟨by rfl, ?_⟩) (by assumption) ?_
                  rotate_left
                  · (intro w hSw; (try dsimp only at hSw); go_simp; try with_reducible rfl)
                  try simp only [List.getElem_toArray, List.getElem_cons_zero, List.getElem_cons_succ, Act.put, List.setIfInBounds_toArray, List.set_cons_zero, List.set_cons_succ]
                  refine HeldBut.ready (rs := [25]) (by kernel_rfl) (by simp) ?_
                  refine AllBut.cons (o := _) rfl (fun K hK => ?_) AllBut.nil
                  have cx3 : W9.cell? ⟨w.heap.size + 1, 9, none⟩ = _ := cell_row hM9 9
                  have fx3 := frozen_of_row W9 _ 9 _ _ hM9
                  have HM9 : Hid _ := hM9
                  have HOW : Hid _ := hown
                  clear hHeld hM9 hown hgr hap hb9
                  go_simp
                  refine hK.out _ _ (.inl rfl) ?_
                  refine HeldBut.done (by kernel_rfl) ?_ _
                  clear hK K
                  have c1z : (W9.setCell ⟨w.heap.size + 1, 9, none⟩ (.slice a9 (acc.length + 1) c9)).cell? ⟨b, off + (k + 1), none⟩ = some (.int .u8 0) := (((Below.refl w.heap.size W9).setCell (by simp) _).cell (p := ⟨b, off + (k + 1), none⟩) hbl).trans (CL0.out W9 hB9.out)
                  have NEW : Hid (RDs w n zs (k + 2 + 0) (acc ++ [⟨0, z, (strOfNums ((zs.drop (k + 2)).take 0))⟩]) (.slice a9 (acc.length + 1) c9) #[.int .i64 2, .int .u32 m1, .int .i64 m2, .int .i64 m3, .int .u32 m4, .int .u32 m5, .int .u32 m6, .int .u32 m7, .int .u64 m8, (.slice a9 (acc.length + 1) c9)] (W9.setCell ⟨w.heap.size + 1, 9, none⟩ (.slice a9 (acc.length + 1) c9))) := by
                    refine ⟨?_, ?_, ?_, ?_, ?_, ?_⟩
                    · exact (Below.heap_setCell _ _ _ _ (show w.heap.size ≠ w.heap.size + 1 by omega)).trans hR9.out
                    · exact row_setCellD HM9.out 9 _
                    · have hq := HOW.out
                      rw [show (acc ++ [(⟨0, z, (strOfNums ((zs.drop (k + 2)).take 0))⟩ : Opt)]).length = acc.length + 1 by simp] at hq ⊢
                      exact own_setCellD hq (by omega)
                    · exact hB9.out.setCell (show w.heap.size ≤ w.heap.size + 1 by omega) _
                    · rw [RD.out.same, HD.out, HDL.out, parse_opt z _ _ h255 h00 (by first | (simp; done) | (simp; omega))]
                      rw [show ((0 : Nat) : Int).toNat = 0 from rfl, List.drop_drop, show k + 1 + 1 + 0 = k + 2 + 0 from by omega, show k + 1 + 1 = k + 2 from by omega]
                      cases parseO (zs.drop (k + 2 + 0)) <;> simp
                    · have := RD.out.few; simp; omega
                  clear RD HM9 HOW hR9 hB9 KS
                  go_wp2
                  go_roundw
                  case rel =>
                    first
                      | exact ⟨k + 2 + 0, _, _, _, by omega, by omega, by go_num, rfl, NEW⟩
                      | (trace_state; exact ⟨_, _, by omega, by omega, by go_num, NEW⟩)
                  case measure => simp [intOf]; omega
                · have wk3 : IntKind.i64.wrap ((k : Int) + 2 + L) = (k : Int) + 2 + L := by simp [IntKind.wrap, IntKind.bits, IntKind.signed]; omega
                  have wL : IntKind.i64.wrap (L : Int) = L := by simp [IntKind.wrap, IntKind.bits, IntKind.signed]; omega
                  have mx : max ((k : Int) + 2 + L) 0 = (k : Int) + 2 + L := by omega
                  have nk3 : (0 : Int) ≤ (k : Int) + 2 + L := by omega
                  have nk4 : (k : Int) + 2 ≤ (k : Int) + 2 + L := by omega
                  have tk3 : ((k : Int) + 2 + L).toNat - (k + 2) = L := by omega
                  have CV : Hid (∀ V, Below w.heap.size w V → (convert 22 9 (.slice (some ⟨b, off + (k + 2), none⟩) L (cap - (k + 2)))).run Try.prog V = .ok (.string (strOfNums ((zs.drop (k + 2)).take L))) V) := fun V hV => run_conv_bs _ (((HBS.out.below hV).drop (by omega) (k + 2) (by omega)).take L (by omega)) 22 9 5 Try.underlying22 Try.underlying5 Try.underlying9
                  have KS : Hid (∀ V, Below w.heap.size w V → V.cell? ⟨w.heap.size + 1, 9, none⟩ = some (.slice va acc.length vc) → V.cell? ⟨w.heap.size + 1, 9, none⟩ = some (.slice va acc.length vc) ∧ V.cell? ⟨b, off + k, none⟩ = some (.int .u8 z) ∧ V.cell? ⟨b, off + (k + 1), none⟩ = some (.int .u8 L) ∧ (convert 22 9 (.slice (some ⟨b, off + (k + 2), none⟩) L (cap - (k + 2)))).run Try.prog V = .ok (.string (strOfNums ((zs.drop (k + 2)).take L))) V) := fun V hV h9 => ⟨h9, CK.out V hV, CL.out V hV, CV.out V hV⟩
                  have hHeld := KS.out wr.drew RD.out.bel.drew (cell_row RD.out.hM 9)
                  go_wp2_with fail
                  refine region_but (fun V => V.cell? ⟨w.heap.size + 1, 9, none⟩ = some (.slice va acc.length vc) ∧ V.cell? ⟨b, off + k, none⟩ = some (.int .u8 z) ∧ V.cell? ⟨b, off + (k + 1), none⟩ = some (.int .u8 L) ∧ (convert 22 9 (.slice (some ⟨b, off + (k + 2), none⟩) L (cap - (k + 2)))).run Try.prog V = .ok (.string (strOfNums ((zs.drop (k + 2)).take L))) V) 25 (by kernel_rfl) ?_
                  refine HeldBut.take (i := 0) (v := ?_) rfl (by kernel_rfl) (by kernel_rfl) (by kernel_rfl) (by kernel_rfl) (fun _ _ _ h => h) (Or.inl ⟨by rfl, ?_⟩) (by assumption) ?_
                  rotate_left
                  · (intro w hSw; (try dsimp only at hSw); go_simp; try with_reducible rfl)
                  try simp only [List.getElem_toArray, List.getElem_cons_zero, List.getElem_cons_succ, Act.put, List.setIfInBounds_toArray, List.set_cons_zero, List.set_cons_succ]
                  refine HeldBut.take (i := 1) (v := ?_) rfl (by kernel_rfl) (by kernel_rfl) (by kernel_rfl) (by kernel_rfl) (fun _ _ _ h => h) (Or.inl ⟨by rfl, ?_⟩) (by assumption) ?_
                  rotate_left
                  · (intro w hSw; (try dsimp only at hSw); go_simp; try with_reducible rfl)
                  try simp only [List.getElem_toArray, List.getElem_cons_zero, List.getElem_cons_succ, Act.put, List.setIfInBounds_toArray, List.set_cons_zero, List.set_cons_succ]
                  refine HeldBut.take (i := 2) (v := ?_) rfl (by kernel_rfl) (by kernel_rfl) (by kernel_rfl) (by kernel_rfl) (fun _ _ _ h => h) (Or.inl ⟨by rfl, ?_⟩) (by assumption) ?_
                  rotate_left
                  · (intro w hSw; (try dsimp only at hSw); go_simp; try with_reducible rfl)
                  try simp only [List.getElem_toArray, List.getElem_cons_zero, List.getElem_cons_succ, Act.put, List.setIfInBounds_toArray, List.set_cons_zero, List.set_cons_succ]
                  refine HeldBut.take (i := 3) (v := ?_) rfl (by kernel_rfl) (by kernel_rfl) (by kernel_rfl) (by kernel_rfl) (fun _ _ _ h => h) (Or.inl ⟨by rfl, ?_⟩) (by assumption) ?_
                  rotate_left
                  · (intro w hSw; (try dsimp only at hSw); go_simp; try with_reducible rfl)
                  try simp only [List.getElem_toArray, List.getElem_cons_zero, List.getElem_cons_succ, Act.put, List.setIfInBounds_toArray, List.set_cons_zero, List.set_cons_succ]
                  refine HeldBut.take (i := 4) (v := ?_) rfl (by kernel_rfl) (by kernel_rfl) (by kernel_rfl) (by kernel_rfl) (fun _ _ _ h => h) (Or.inl ⟨by rfl, ?_⟩) (by assumption) ?_
                  rotate_left
                  · (intro w hSw; (try dsimp only at hSw); go_simp; try with_reducible rfl)
                  try simp only [List.getElem_toArray, List.getElem_cons_zero, List.getElem_cons_succ, Act.put, List.setIfInBounds_toArray, List.set_cons_zero, List.set_cons_succ]
                  refine HeldBut.take (i := 5) (v := ?_) rfl (by kernel_rfl) (by kernel_rfl) (by kernel_rfl) (by kernel_rfl) (fun _ _ _ h => h) (Or.inl ⟨by rfl, ?_⟩) (by assumption) ?_
                  rotate_left
                  · (intro w hSw; (try dsimp only at hSw); go_simp; try with_reducible rfl)
                  try simp only [List.getElem_toArray, List.getElem_cons_zero, List.getElem_cons_succ, Act.put, List.setIfInBounds_toArray, List.set_cons_zero, List.set_cons_succ]
                  refine HeldBut.take (i := 6) (v := ?_) rfl (by kernel_rfl) (by kernel_rfl) (by kernel_rfl) (by kernel_rfl) (fun _ _ _ h => h) (Or.inl ⟨by rfl, ?_⟩) (by assumption) ?_
                  rotate_left
                  · (intro w hSw; (try dsimp only at hSw); go_simp; try with_reducible rfl)
                  try simp only [List.getElem_toArray, List.getElem_cons_zero, List.getElem_cons_succ, Act.put, List.setIfInBounds_toArray, List.set_cons_zero, List.set_cons_succ]
                  refine HeldBut.take (i := 7) (v := ?_) rfl (by kernel_rfl) (by kernel_rfl) (by kernel_rfl) (by kernel_rfl) (fun _ _ _ h => h) (Or.inl ⟨by rfl, ?_⟩) (by assumption) ?_
                  rotate_left
                  · (intro w hSw; (try dsimp only at hSw); go_simp; try with_reducible rfl)
                  try simp only [List.getElem_toArray, List.getElem_cons_zero, List.getElem_cons_succ, Act.put, List.setIfInBounds_toArray, List.set_cons_zero, List.set_cons_succ]
                  refine HeldBut.take (i := 8) (v := ?_) rfl (by kernel_rfl) (by kernel_rfl) (by kernel_rfl) (by kernel_rfl) (fun _ _ _ h => h) (Or.inl ⟨by rfl, ?_⟩) (by assumption) ?_
                  rotate_left
                  · (intro w hSw; (try dsimp only at hSw); go_simp; try with_reducible rfl)
                  try simp only [List.getElem_toArray, List.getElem_cons_zero, List.getElem_cons_succ, Act.put, List.setIfInBounds_toArray, List.set_cons_zero, List.set_cons_succ]
                  refine HeldBut.take (i := 9) (v := ?_) rfl (by kernel_rfl) (by kernel_rfl) (by kernel_rfl) (by kernel_rfl) (fun _ _ _ h => h) (Or.inl ⟨by rfl, ?_⟩) (by assumption) ?_
                  rotate_left
                  · (intro w hSw; (try dsimp only at hSw); go_simp; try with_reducible rfl)
                  try simp only [List.getElem_toArray, List.getElem_cons_zero, List.getElem_cons_succ, Act.put, List.setIfInBounds_toArray, List.set_cons_zero, List.set_cons_succ]
                  refine HeldBut.take (i := 10) (v := ?_) rfl (by kernel_rfl) (by kernel_rfl) (by kernel_rfl) (by kernel_rfl) (fun _ _ _ h => h) (Or.inl ⟨by rfl, ?_⟩) (by assumption) ?_
                  rotate_left
                  · (intro w hSw; (try dsimp only at hSw); go_simp; try with_reducible rfl)
                  try simp only [List.getElem_toArray, List.getElem_cons_zero, List.getElem_cons_succ, Act.put, List.setIfInBounds_toArray, List.set_cons_zero, List.set_cons_succ]
                  refine HeldBut.take (i := 11) (v := ?_) rfl (by kernel_rfl) (by kernel_rfl) (by kernel_rfl) (by kernel_rfl) (fun _ _ _ h => h) (Or.inl ⟨by rfl, ?_⟩) (by assumption) ?_
                  rotate_left
                  · (intro w hSw; (try dsimp only at hSw); go_simp; try with_reducible rfl)
                  try simp only [List.getElem_toArray, List.getElem_cons_zero, List.getElem_cons_succ, Act.put, List.setIfInBounds_toArray, List.set_cons_zero, List.set_cons_succ]
                  refine HeldBut.take (i := 12) (v := ?_) rfl (by kernel_rfl) (by kernel_rfl) (by kernel_rfl) (by kernel_rfl) (fun _ _ _ h => h) (Or.inl ⟨by rfl, ?_⟩) (by assumption) ?_
                  rotate_left
                  · (intro w hSw; (try dsimp only at hSw); go_simp; try with_reducible rfl)
                  try simp only [List.getElem_toArray, List.getElem_cons_zero, List.getElem_cons_succ, Act.put, List.setIfInBounds_toArray, List.set_cons_zero, List.set_cons_succ]
                  refine HeldBut.take (i := 13) (v := ?_) rfl (by kernel_rfl) (by kernel_rfl) (by kernel_rfl) (by kernel_rfl) (fun _ _ _ h => h) (Or.inl ⟨by rfl, ?_⟩) (by assumption) ?_
                  rotate_left
                  · (intro w hSw; (try dsimp only at hSw); go_simp; try with_reducible rfl)
                  try simp only [List.getElem_toArray, List.getElem_cons_zero, List.getElem_cons_succ, Act.put, List.setIfInBounds_toArray, List.set_cons_zero, List.set_cons_succ]
                  refine HeldBut.take (i := 14) (v := ?_) rfl (by kernel_rfl) (by kernel_rfl) (by kernel_rfl) (by kernel_rfl) (fun _ _ _ h => h) (Or.inl ⟨by rfl, ?_⟩) (by assumption) ?_
                  rotate_left
                  · (intro w hSw; (try dsimp only at hSw); go_simp; try with_reducible rfl)
                  try simp only [List.getElem_toArray, List.getElem_cons_zero, List.getElem_cons_succ, Act.put, List.setIfInBounds_toArray, List.set_cons_zero, List.set_cons_succ]
                  refine HeldBut.take (i := 15) (v := ?_) rfl (by kernel_rfl) (by kernel_rfl) (by kernel_rfl) (by kernel_rfl) (fun _ _ _ h => h) (Or.inl ⟨by rfl, ?_⟩) (by assumption) ?_
                  rotate_left
                  · (intro w hSw; (try dsimp only at hSw); go_simp; try with_reducible rfl)
                  try simp only [List.getElem_toArray, List.getElem_cons_zero, List.getElem_cons_succ, Act.put, List.setIfInBounds_toArray, List.set_cons_zero, List.set_cons_succ]
                  refine HeldBut.take (i := 16) (v := ?_) rfl (by kernel_rfl) (by kernel_rfl) (by kernel_rfl) (by kernel_rfl) (fun _ _ _ h => h) (Or.inl ⟨by rfl, ?_⟩) (by assumption) ?_
                  rotate_left
                  · (intro w hSw; (try dsimp only at hSw); go_simp; try with_reducible rfl)
                  try simp only [List.getElem_toArray, List.getElem_cons_zero, List.getElem_cons_succ, Act.put, List.setIfInBounds_toArray, List.set_cons_zero, List.set_cons_succ]
                  refine HeldBut.take (i := 17) (v := ?_) rfl (by kernel_rfl) (by kernel_rfl) (by kernel_rfl) (by kernel_rfl) (fun _ _ _ h => h) (Or.inl ⟨by rfl, ?_⟩) (by assumption) ?_
                  rotate_left
                  · (intro w hSw; (try dsimp only at hSw); go_simp; try with_reducible rfl)
                  try simp only [List.getElem_toArray, List.getElem_cons_zero, List.getElem_cons_succ, Act.put, List.setIfInBounds_toArray, List.set_cons_zero, List.set_cons_succ]
                  refine HeldBut.take (i := 18) (v := ?_) rfl (by kernel_rfl) (by kernel_rfl) (by kernel_rfl) (by kernel_rfl) (fun _ _ _ h => h) (Or.inl ⟨by rfl, ?_⟩) (by assumption) ?_
                  rotate_left
                  · (intro w hSw; (try dsimp only at hSw); go_simp; try with_reducible rfl)
                  try simp only [List.getElem_toArray, List.getElem_cons_zero, List.getElem_cons_succ, Act.put, List.setIfInBounds_toArray, List.set_cons_zero, List.set_cons_succ]
                  refine HeldBut.take (i := 19) (v := ?_) rfl (by kernel_rfl) (by kernel_rfl) (by kernel_rfl) (by kernel_rfl) (fun _ _ _ h => h) (Or.inl ⟨by rfl, ?_⟩) (by assumption) ?_
                  rotate_left
                  · (intro w hSw; (try dsimp only at hSw); go_simp; try with_reducible rfl)
                  try simp only [List.getElem_toArray, List.getElem_cons_zero, List.getElem_cons_succ, Act.put, List.setIfInBounds_toArray, List.set_cons_zero, List.set_cons_succ]
                  refine HeldBut.take (i := 20) (v := ?_) rfl (by kernel_rfl) (by kernel_rfl) (by kernel_rfl) (by kernel_rfl) (fun _ _ _ h => h) (Or.inl ⟨by rfl, ?_⟩) (by assumption) ?_
                  rotate_left
                  · (intro w hSw; (try dsimp only at hSw); go_simp; try with_reducible rfl)
                  try simp only [List.getElem_toArray, List.getElem_cons_zero, List.getElem_cons_succ, Act.put, List.setIfInBounds_toArray, List.set_cons_zero, List.set_cons_succ]
                  refine HeldBut.take (i := 21) (v := ?_) rfl (by kernel_rfl) (by kernel_rfl) (by kernel_rfl) (by kernel_rfl) (fun _ _ _ h => h) (Or.inl ⟨by rfl, ?_⟩) (by assumption) ?_
                  rotate_left
                  · (intro w hSw; (try dsimp only at hSw); go_simp; try with_reducible rfl)
                  try simp only [List.getElem_toArray, List.getElem_cons_zero, List.getElem_cons_succ, Act.put, List.setIfInBounds_toArray, List.set_cons_zero, List.set_cons_succ]
                  refine HeldBut.ready (rs := [22]) (by kernel_rfl) (by simp) ?_
                  refine AllBut.cons (o := _) rfl (fun K hK => ?_) AllBut.nil
                  go_simp
                  have hHeld2 := KS.out (wr.drew.alloc (.cells #[.int .i64 0, .int .i64 z, .string (strOfNums ((zs.drop (k + 2)).take L))] 45)) (RD.out.bel.drew.alloc RD.out.bel.size _) ((below1 _ _).cell (p := ⟨w.heap.size + 1, 9, none⟩) (lt_of_heapD RD.out.hM) |>.trans (cell_row RD.out.hM 9))
                  refine hK.out _ _ (.inr hHeld2) ?_
                  clear hK K hHeld
                  have hHeld := hHeld2
                  clear hHeld2
                  try simp only [List.getElem_toArray, List.getElem_cons_zero, List.getElem_cons_succ, Act.put, List.setIfInBounds_toArray, List.set_cons_zero, List.set_cons_succ]
                  refine HeldBut.ready (rs := [23]) (by kernel_rfl) (by simp) ?_
                  refine AllBut.cons (o := _) rfl (fun K hK => ?_) AllBut.nil
                  have hOw : World.ownsRow (wr.drew.alloc (.cells #[.int .i64 0, .int .i64 z, .string (strOfNums ((zs.drop (k + 2)).take L))] 45)) (w.heap.size + 1 + 1) 45 3 (.slice va acc.length vc) acc.length (optCells acc) := World.ownsRow.alloc (World.ownsRow.drew RD.out.own) _
                  obtain ⟨a9, c9, W9, hap, hown, hgr⟩ := run_append_opt (wr.drew.alloc (.cells #[.int .i64 0, .int .i64 z, .string (strOfNums ((zs.drop (k + 2)).take L))] 45)) (w.heap.size + 1 + 1) _ acc hOw wr.heap.size ⟨0, z, (strOfNums ((zs.drop (k + 2)).take L))⟩ (heap_alloc_new _ _) (by have := RD.out.few; omega) (by have := lt_of_heapD RD.out.hM; simp; omega)
                  have hb9 : Below (w.heap.size + 1 + 1) wr W9 := (((Below.refl _ wr).drew).alloc (by have := lt_of_heapD RD.out.hM; simp; omega) _).grown hgr (by have := lt_of_heapD RD.out.hM; simp; omega) (fun j hj => (World.ownsRow.lt hOw j hj).1)
                  have hM9 := (hb9.block (w.heap.size + 1) (by omega)).trans RD.out.hM
                  have hR9 : Hid _ := (hb9.block w.heap.size (by omega)).trans RD.out.hR
                  have hB9 : Hid (Below w.heap.size w W9) := RD.out.bel.trans (hb9.mono (by omega))
                  have hHeld2 := KS.out W9 hB9.out (cell_row hM9 9)
                  refine wp_append_runD _ _ 25 rfl _ _ rfl rfl _ hap ?_
                  refine hK.out _ _ (.inr hHeld2) ?_
                  clear hK K hHeld
                  have hHeld := hHeld2
                  clear hHeld2
                  try simp only [List.getElem_toArray, List.getElem_cons_zero, List.getElem_cons_succ, Act.put, List.setIfInBounds_toArray, List.set_cons_zero, List.set_cons_succ]
                  refine HeldBut.take (i := 24) (v := ?_) rfl (by kernel_rfl) (by kernel_rfl) (by kernel_rfl) (by kernel_rfl) (fun _ _ _ h => h) (Or.inl ⟨by rfl, ?_⟩) (by assumption) ?_
                  rotate_left
                  · (intro w hSw; (try dsimp only at hSw); go_simp; try with_reducible rfl)
                  try simp only [List.getElem_toArray, List.getElem_cons_zero, List.getElem_cons_succ, Act.put, List.setIfInBounds_toArray, List.set_cons_zero, List.set_cons_succ]
                  refine HeldBut.ready (rs := [25]) (by kernel_rfl) (by simp) ?_
                  refine AllBut.cons (o := _) rfl (fun K hK => ?_) AllBut.nil
                  have cx3 : W9.cell? ⟨w.heap.size + 1, 9, none⟩ = _ := cell_row hM9 9
                  have fx3 := frozen_of_row W9 _ 9 _ _ hM9
                  have HM9 : Hid _ := hM9
                  have HOW : Hid _ := hown
                  clear hHeld hM9 hown hgr hap hb9
                  go_simp
                  refine hK.out _ _ (.inl rfl) ?_
                  refine HeldBut.done (by kernel_rfl) ?_ _
                  clear hK K
                  have c1z : (W9.setCell ⟨w.heap.size + 1, 9, none⟩ (.slice a9 (acc.length + 1) c9)).cell? ⟨b, off + (k + 1), none⟩ = some (.int .u8 L) := (((Below.refl w.heap.size W9).setCell (by simp) _).cell (p := ⟨b, off + (k + 1), none⟩) hbl).trans (CL.out W9 hB9.out)
                  have NEW : Hid (RDs w n zs (k + 2 + L) (acc ++ [⟨0, z, (strOfNums ((zs.drop (k + 2)).take L))⟩]) (.slice a9 (acc.length + 1) c9) #[.int .i64 2, .int .u32 m1, .int .i64 m2, .int .i64 m3, .int .u32 m4, .int .u32 m5, .int .u32 m6, .int .u32 m7, .int .u64 m8, (.slice a9 (acc.length + 1) c9)] (W9.setCell ⟨w.heap.size + 1, 9, none⟩ (.slice a9 (acc.length + 1) c9))) := by
                    refine ⟨?_, ?_, ?_, ?_, ?_, ?_⟩
                    · exact (Below.heap_setCell _ _ _ _ (show w.heap.size ≠ w.heap.size + 1 by omega)).trans hR9.out
                    · exact row_setCellD HM9.out 9 _
                    · have hq := HOW.out
                      rw [show (acc ++ [(⟨0, z, (strOfNums ((zs.drop (k + 2)).take L))⟩ : Opt)]).length = acc.length + 1 by simp] at hq ⊢
                      exact own_setCellD hq (by omega)
                    · exact hB9.out.setCell (show w.heap.size ≤ w.heap.size + 1 by omega) _
                    · rw [RD.out.same, HD.out, HDL.out, parse_opt z _ _ h255 h00 (by first | (simp; done) | (simp; omega))]
                      rw [show (L : Int).toNat = L from rfl, List.drop_drop, show k + 1 + 1 + L = k + 2 + L from by omega, show k + 1 + 1 = k + 2 from by omega]
                      cases parseO (zs.drop (k + 2 + L)) <;> simp
                    · have := RD.out.few; simp; omega
                  clear RD HM9 HOW hR9 hB9 KS
                  go_wp2
                  go_roundw
                  case rel =>
                    first
                      | exact ⟨k + 2 + L, _, _, _, by omega, by omega, by go_num, rfl, NEW⟩
                      | (trace_state; exact ⟨_, _, by omega, by omega, by go_num, NEW⟩)
                  case measure => simp [intOf]; omega
              · have h2I : (n : Int) < (k : Int) + 2 + L := by omega
                have hnone : Hid (parseO (zs.drop 240) = none) := by show _ = _; rw [RD.out.same, HD.out, HDL.out, parse_long z _ _ h255 h00 (by simp; omega)]; rfl
                have HRr : Hid _ := RD.out.hR
                have HBl : Hid _ := RD.out.bel
                clear RD
                go_wp2_with (first
                  | (refine wpList_store_msg rfl 27 _ _ rfl w.heap.size zeroArr zeroArr 27 rfl rfl HRr.out size10d rfl (by kernel_rfl) ?_; intro W2 y1 y2 y3 y4)
                  | fail)
                refine bodyPost_ret (results_msg (p := 2) (u := 3) rfl _ _ w.heap.size zeroArr rfl y1 rfl) rfl ?_
                refine ⟨HBl.out.trans y4, ?_⟩
                rw [hnone.out]
                rfl

            · have h1I : (n : Int) ≤ (k : Int) + 1 := by omega
              have hk1 : n = k + 1 := by omega
              have hnone : Hid (parseO (zs.drop 240) = none) := by show _ = _; rw [RD.out.same, HD.out, show zs.drop (k + 1) = [] from List.drop_of_length_le (by omega), parse_short z h255 h00]; rfl
              have HRr : Hid _ := RD.out.hR
              have HBl : Hid _ := RD.out.bel
              clear RD
              go_wp2_with (first
                | (refine wpList_store_msg rfl 27 _ _ rfl w.heap.size zeroArr zeroArr 27 rfl rfl HRr.out size10d rfl (by kernel_rfl) ?_; intro W2 y1 y2 y3 y4)
                | fail)
              refine bodyPost_ret (results_msg (p := 2) (u := 3) rfl _ _ w.heap.size zeroArr rfl y1 rfl) rfl ?_
              refine ⟨HBl.out.trans y4, ?_⟩
              rw [hnone.out]
              rfl

  exact region3 w b off n cap _ m1 m2 m3 m4 m5 m6 m7 m8 _ _ _ _ _ _ _ _ _ _ _ _ _ _ _ _ _ _ _ _ _ _ _ _ _ _ _ _ _ _ _ _ _ _ _ _ _ _ _ K3 _ (fun _ _ _ d _ h => by cases d <;> exact h) hx0 wm2 wm3 n4 n5 n6 n7 n8 n9 n10 hn hcap HA1 HN1 HN2 HA2 HA3 HA4 HA5 HN3 HB0 HBA HS0 HSA HSB REST
end Go.Proofs.Ytglaheblbomhpaa
