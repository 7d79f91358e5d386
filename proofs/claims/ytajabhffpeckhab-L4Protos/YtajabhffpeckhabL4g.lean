/- What Encode of package l4 answers on a UDP packet that fits, with a check sum and some data. Conditions: as said. -/
import Derived.Test.YtajabhffpeckhabL4f
import Derived.Lib.BufferWrite
namespace Go.Proofs.Ytajabhffpeckhab
open Go.RowKit Go.Lib

theorem checkAt_udp (w : World) : Calls Try.prog 20 #[.int .i64 2] w fun e w' => e = .returned (.int .i64 6) ∧ w' = w := by
  go_enter Try.func20, Try.ntmps20
  go_wp2
  go_ret
  exact ⟨rfl, rfl⟩

/-- The check sum of a UDP packet: never 0. -/
def udpC (src dst sp dp : Int) (ds : List Int) : Int := if sumV src dst 2 (udpHead sp dp ds.length ++ ds) = 65535 then 65535 else 65535 - sumV src dst 2 (udpHead sp dp ds.length ++ ds)
def udpB (src dst sp dp : Int) (ds : List Int) : List Int := ((udpHead sp dp ds.length ++ ds).set 6 (udpC src dst sp dp ds / 256)).set (6 + 1) (udpC src dst sp dp ds % 256)

set_option maxHeartbeats 4000000 in
theorem encode_udp (src dst sp dp : Int) (ds : List Int) (w : World) (hs : 0 ≤ src ∧ src ≤ 4294967295) (ht : 0 ≤ dst ∧ dst ≤ 4294967295) (h1 : 0 ≤ sp ∧ sp ≤ 65535) (h2 : 0 ≤ dp ∧ dp ≤ 65535) (hd : ds.length ≤ 65507) (hd0 : 1 ≤ ds.length) (hf : ∀ i, 0 ≤ ds.getD i 0 ∧ ds.getD i 0 ≤ 255) :
    Calls Try.prog 7 #[.int .u32 src, .int .u32 dst, l4V 2 0 0 0 sp dp false 0 0 0 0 0 [] ds] w fun e w' => ∃ g, e = .returned (.tuple #[.slice (some ⟨g, 0, none⟩) (8 + ds.length) (8 + ds.length), .int .i64 0]) ∧ EncS w w' g (8 + ds.length) (8 + ds.length) (udpB src dst sp dp ds) := by
  have hfx : fixV 2 + (([] : List Int).length : Int) + ds.length = 8 + ds.length := by simp [fixV]
  have hdI : (ds.length : Int) ≤ 65507 := by omega
  have hsz := strOfNums_size ds
  have g1 : fit16 sp = true := by simp [fit16, h1]
  have g2 : fit16 dp = true := by simp [fit16, h2]
  have hmk : ∀ w, (Instr.makeSlice 25 (.int .i64 (8 + (ds.length : Int))) (.int .i64 (8 + (ds.length : Int)))).run Try.prog w = .ok (.slice (some ⟨w.heap.size, 0, none⟩) (8 + ds.length) (8 + ds.length)) (w.alloc (.cells (madeCells #[.int .u8 0] (8 + ds.length)) 5)) := fun w => make_full w (8 + ds.length) (by omega)
  rw [udpV]
  go_enter Try.func7, Try.ntmps7
  go_wp2_with fail
  rw [← udpV]
  refine (check_udp sp dp false ds _ g1 g2 hd).mono ?_
  rw [udpV]
  rintro e W1 ⟨rfl, hb1⟩
  have A1 : Hid (AtB W1 w.heap.size #[.int .i64 2, .int .i64 0, .int .i64 0, .int .u32 0, .int .i64 sp, .int .i64 dp, .bool false, .int .u32 0, .int .u32 0, .int .i64 0, .int .i64 0, .int .i64 0, .string ⟨#[]⟩, .string (strOfNums ds)]) := AtB.below (atB_new w #[.int .i64 2, .int .i64 0, .int .i64 0, .int .u32 0, .int .i64 sp, .int .i64 dp, .bool false, .int .u32 0, .int .u32 0, .int .i64 0, .int .i64 0, .int .i64 0, .string ⟨#[]⟩, .string (strOfNums ds)] 24 _ rfl) hb1
  obtain ⟨x0, x1, x2, x3, x4, x5, x6, x7, x8, x9, x10, x11, x12, x13⟩ := AtB.fourteen A1.out
  have B1 : Below w.heap.size w W1 := (below1 w _).trans (hb1.mono (by simp))
  clear hb1
  go_wp2_with fail
  rw [← udpV]
  refine (sizeOf_any _ _ _ _ _ _ _ _ _ _ _ _ _ _ _ (by simp) (by omega)).mono ?_
  rw [hfx, udpV]
  rintro e W2 ⟨rfl, hb2⟩
  have A2 : Hid (AtB W2 w.heap.size #[.int .i64 2, .int .i64 0, .int .i64 0, .int .u32 0, .int .i64 sp, .int .i64 dp, .bool false, .int .u32 0, .int .u32 0, .int .i64 0, .int .i64 0, .int .i64 0, .string ⟨#[]⟩, .string (strOfNums ds)]) := AtB.below A1.out hb2
  have B2 : Below w.heap.size w W2 := B1.trans (hb2.mono B1.size)
  clear x0 x1 x2 x3 x4 x5 x6 x7 x8 x9 x10 x11 x12 x13 hb2 A1 B1
  obtain ⟨x0, x1, x2, x3, x4, x5, x6, x7, x8, x9, x10, x11, x12, x13⟩ := AtB.fourteen (AtB.below A2.out (below1 W2 (.cells (madeCells #[.int .u8 0] (8 + ds.length)) 5)))
  go_wp2_with fail
  rw [← udpV]
  refine (head_udp sp dp false ds _ h1 h2 hd).mono ?_
  rw [udpV]
  rintro e W3 ⟨a3, c3, rfl, H3, hb3⟩
  obtain ⟨b3, o3, rfl⟩ : ∃ b off, a3 = some ⟨b, off, none⟩ := by
    rcases H3.cells with h0 | ⟨b, off, e, _⟩
    · omega
    · exact ⟨b, off, e⟩
  have A3 : Hid (AtB W3 w.heap.size #[.int .i64 2, .int .i64 0, .int .i64 0, .int .u32 0, .int .i64 sp, .int .i64 dp, .bool false, .int .u32 0, .int .u32 0, .int .i64 0, .int .i64 0, .int .i64 0, .string ⟨#[]⟩, .string (strOfNums ds)]) := AtB.below (AtB.below A2.out (below1 W2 _)) hb3
  have B3 : Below w.heap.size w W3 := (B2.alloc B2.size _).trans (hb3.mono (by have := B2.size; simp; omega))
  have hr3 : W3.heap[W2.heap.size]? = some (.cells (madeCells #[.int .u8 0] (8 + ds.length)) 5 (0, 0)) := (hb3.block _ (by simp)).trans (heap_alloc_new W2 _)
  have hgw : w.heap.size < W2.heap.size := A2.out.1
  clear x0 x1 x2 x3 x4 x5 x6 x7 x8 x9 x10 x11 x12 x13 hb3 A2 B2 hmk
  have hs5 : (Try.prog.info? 5).map (·.size) = some 1 := by kernel_rfl
  have hHl : (udpHead sp dp ds.length).length = 8 := rfl
  obtain ⟨V1, cp1, r1, bv1⟩ : ∃ V, (Builtin.copy_ #[25, 25] 3 #[.slice (some ⟨W2.heap.size, 0, none⟩) (8 + ds.length) (8 + ds.length), .slice (some ⟨b3, o3, none⟩) 8 c3]).run Try.prog W3 = .ok (.int .i64 8) V ∧ Hid (V.heap[W2.heap.size]? = some (.cells ((udpHead sp dp ds.length).map (Value.int .u8) ++ (madeCells #[.int .u8 0] (8 + ds.length)).toList.drop 8).toArray 5 (0, 0))) ∧ Below W2.heap.size W3 V := by
    refine ⟨_, (run_copy_row (P := Try.prog) W3 25 25 3 5 W2.heap.size 0 (8 + ds.length) (8 + ds.length) ⟨b3, o3, none⟩ 8 c3 (madeCells #[.int .u8 0] (8 + ds.length)) 5 ((udpHead sp dp ds.length).map (Value.int .u8)) Try.underlying25 hs5 hr3 ?_ ?_ ?_ (ints_oneCell _ _)).trans (by rw [List.length_map, hHl]; rfl), ?_, ?_⟩
    · rw [List.length_map, hHl]; exact (Nat.min_eq_left (by omega)).symm
    · intro j v hv
      obtain ⟨hj, rfl⟩ := map_get hv
      rw [plain_add]
      rcases H3.cells with h0 | ⟨b, off, e, hc⟩
      · omega
      · cases e; exact hc j hj
    · rw [List.length_map, hHl, size_madeCells]; omega
    · show _ = _
      rw [setRow_heap _ _ _ _ 5 _ hr3]
      simp
    · exact below_setRow (Below.refl _ _) (Nat.le_refl _) _
  have A4 : Hid (AtB V1 w.heap.size #[.int .i64 2, .int .i64 0, .int .i64 0, .int .u32 0, .int .i64 sp, .int .i64 dp, .bool false, .int .u32 0, .int .u32 0, .int .i64 0, .int .i64 0, .int .i64 0, .string ⟨#[]⟩, .string (strOfNums ds)]) := ⟨Nat.lt_of_lt_of_le A3.out.1 bv1.size, fun i => (bv1.cell hgw).trans (A3.out.2 i)⟩
  obtain ⟨x0, x1, x2, x3, x4, x5, x6, x7, x8, x9, x10, x11, x12, x13⟩ := AtB.fourteen A4.out
  have cp2 : ∀ W, (Builtin.copy_ #[25, 9] 3 #[.slice (some ⟨W2.heap.size, 8, none⟩) ds.length ds.length, .string ⟨#[]⟩]).run Try.prog W = .ok (.int .i64 0) W := fun W => run_copy_empty_string W 25 9 3 5 _ _ _ _ Try.underlying25 (by rw [hs5]; rfl) rfl
  clear H3
  have hne8 : ¬ ds.length = 0 := by omega
  go_wp2_with fail
  go_quiet (fail)
  have hrV : Hid ((V1.drewN nq).heap[W2.heap.size]? = some (.cells ((udpHead sp dp ds.length).map (Value.int .u8) ++ (madeCells #[.int .u8 0] (8 + ds.length)).toList.drop 8).toArray 5 (0, 0))) := r1.out
  have BV : Below W2.heap.size W3 (V1.drewN nq) := below_drewN bv1 nq
  have AV : Hid (AtB (V1.drewN nq) w.heap.size #[.int .i64 2, .int .i64 0, .int .i64 0, .int .u32 0, .int .i64 sp, .int .i64 dp, .bool false, .int .u32 0, .int .u32 0, .int .i64 0, .int .i64 0, .int .i64 0, .string ⟨#[]⟩, .string (strOfNums ds)]) := A4.out
  clear x0 x1 x2 x3 x4 x5 x6 x7 x8 x9 x10 x11 x12 x13 A4 r1 bv1 cp1 cp2
  generalize V1.drewN nq = V at *
  obtain ⟨V3, cp3, r3, bv3⟩ : ∃ V3, (Builtin.copy_ #[25, 9] 3 #[.slice (some ⟨W2.heap.size, 8, none⟩) ds.length ds.length, .string (strOfNums ds)]).run Try.prog V.drew = .ok (.int .i64 ds.length) V3 ∧ Hid (V3.heap[W2.heap.size]? = some (.cells ((udpHead sp dp ds.length ++ ds).map (Value.int .u8)).toArray 5 (0, 0))) ∧ Below W2.heap.size V V3 := by
    refine ⟨_, (run_copy_row_string (P := Try.prog) V.drew 25 9 3 5 W2.heap.size 8 ds.length ds.length (strOfNums ds) _ 5 Try.underlying25 hs5 hrV.out (by omega) (by simp [hHl, hsz, size_madeCells])).trans (by rw [hsz]; rfl), ?_, ?_⟩
    · show _ = _
      rw [setRow_heap V.drew _ _ _ 5 _ (show V.drew.heap[W2.heap.size]? = _ from hrV.out)]
      rw [show byteCells (strOfNums ds).data.toList = ds.map (Value.int .u8) from strCells_nums hf]
      have e1 : ((udpHead sp dp ds.length).map (Value.int .u8) ++ (madeCells #[.int .u8 0] (8 + ds.length)).toList.drop 8).take 8 = (udpHead sp dp ds.length).map (Value.int .u8) := by
        rw [List.take_append_of_le_length (by simp [hHl]), List.take_of_length_le (by simp [hHl])]
      have e2 : ((udpHead sp dp ds.length).map (Value.int .u8) ++ (madeCells #[.int .u8 0] (8 + ds.length)).toList.drop 8).drop (8 + ds.length) = [] := by
        apply List.drop_eq_nil_of_le
        simp [hHl, size_madeCells]
      simp only [e1, e2, List.append_nil, List.map_append]
    · exact below_setRow (Below.drew (Below.refl _ _)) (Nat.le_refl _) _
  obtain ⟨x0, x1, x2, x3, x4, x5, x6, x7, x8, x9, x10, x11, x12, x13⟩ := AtB.fourteen AV.out
  have A5 : Hid (AtB V3 w.heap.size #[.int .i64 2, .int .i64 0, .int .i64 0, .int .u32 0, .int .i64 sp, .int .i64 dp, .bool false, .int .u32 0, .int .u32 0, .int .i64 0, .int .i64 0, .int .i64 0, .string ⟨#[]⟩, .string (strOfNums ds)]) := ⟨Nat.lt_of_lt_of_le AV.out.1 bv3.size, fun i => (bv3.cell hgw).trans (AV.out.2 i)⟩
  have hE : EncS w V3 W2.heap.size (8 + ds.length) (8 + ds.length) (udpHead sp dp ds.length ++ ds) := by
    refine encS_filled w V3 W2.heap.size (8 + ds.length) _ (Nat.le_of_lt hgw) ?_ r3.out (by simp [hHl]) (fits_append (fits_cons (by omega) (fits_cons (by omega) (fits_cons (by omega) (fits_cons (by omega) (fits_cons (by omega) (fits_cons (by omega) (fits_cons (by omega) (fits_cons (by omega) (fun i => by simp))))))))) hf) (by omega)
    exact B3.trans (((BV.trans bv3)).mono (Nat.le_of_lt hgw))
  go_wp2_with fail
  go_region
  clear x0 x1 x2 x3 x4 x5 x6 x7 x8 x9 x10 x11 x12 x13
  obtain ⟨x0, x1, x2, x3, x4, x5, x6, x7, x8, x9, x10, x11, x12, x13⟩ := AtB.fourteen A5.out
  have HE : Hid _ := hE
  clear hE cp3 r3 bv3 BV AV hrV B3 hr3
  go_wp2_with fail
  have hSb := sumV_bd src dst 2 _ hs.1 ht.1 HE.out.fits
  have HCy : Hid (sumV src dst 2 (udpHead sp dp ds.length ++ ds) = 65535 → udpC src dst sp dp ds = 65535) := fun h => by unfold udpC; rw [if_pos h]
  have HCn : Hid (¬ sumV src dst 2 (udpHead sp dp ds.length ++ ds) = 65535 → udpC src dst sp dp ds = 65535 - sumV src dst 2 (udpHead sp dp ds.length ++ ds)) := fun h => by unfold udpC; rw [if_neg h]
  refine (sumOf_any src dst 2 hs ht _ HE.out.bs).mono ?_
  rintro e w5 ⟨rfl, nq2, rfl⟩
  have HE5 : Hid _ := HE.out.drewN nq2
  have hx := not16 _ hSb.1 hSb.2
  have hx0 := not16 0 (by omega) (by omega)
  have hsg : IntKind.u16.signed = false := rfl
  have hmx : IntKind.u16.max = 65535 := rfl
  generalize sumV src dst 2 (udpHead sp dp ds.length ++ ds) = S at *
  by_cases hS : S = 65535
  · subst hS
    go_wp2_with fail
    refine (checkAt_udp _).mono ?_
    rintro e w6 ⟨rfl, hw6⟩
    rw [hw6]
    clear hw6
    go_wp2_with fail
    refine (setWord_row HE5.out 6 65535 (by omega) (by omega)).mono ?_
    rintro e V6 ⟨rfl, rfl, hE6⟩
    have HE6 : Hid _ := hE6
    clear hE6
    go_wp2
    go_ret2
    refine ⟨W2.heap.size, rfl, ?_⟩
    unfold udpB
    rw [HCy.out (by trivial)]
    exact HE6.out
  · have hC0 : (65535 - S == 0) = false := by simp; omega
    go_wp2_with fail
    refine (checkAt_udp _).mono ?_
    rintro e w6 ⟨rfl, hw6⟩
    rw [hw6]
    clear hw6
    go_wp2_with fail
    refine (setWord_row HE5.out 6 (65535 - S) (by omega) (by omega)).mono ?_
    rintro e V6 ⟨rfl, rfl, hE6⟩
    have HE6 : Hid _ := hE6
    clear hE6
    go_wp2
    go_ret2
    refine ⟨W2.heap.size, rfl, ?_⟩
    unfold udpB
    rw [HCn.out hS]
    exact HE6.out
end Go.Proofs.Ytajabhffpeckhab
