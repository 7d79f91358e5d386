/- The reference's Decode of dhcp: its other refusals ahead of the options. Conditions: the bytes can be read. -/
import Derived.Test.YtglaheblbomhpaaRG
namespace Go.Proofs.Ytglaheblbomhpaa
open Go.RowKit
set_option maxHeartbeats 1000000 in
set_option maxRecDepth 20000 in
theorem rdecode_b1 (w : World) (b off n cap : Nat) (zs : List Int) (h : BS w (some ⟨b, off, none⟩) n zs) (hcap : n ≤ cap) (hn : 240 ≤ n) (c0 : zs.getD 0 0 = 1 ∨ zs.getD 0 0 = 2) (c1 : ¬ zs.getD 1 0 = 1) :
    Calls Try.prog 8 #[.slice (some ⟨b, off, none⟩) n cap] w fun e w' => e = .returned (.tuple #[.agg zeroArr, .int .i64 60]) ∧ Below w.heap.size w w' := by
  have hr := h.room
  have hl := h.len
  have hB := below1 w (.cells #[.int .i64 0, .int .u32 0, .int .i64 0, .int .i64 0, .int .u32 0, .int .u32 0, .int .u32 0, .int .u32 0, .int .u64 0, .slice none 0 0] 27)
  have HB1 : Hid _ := hB
  have hcell : ∀ j, j < n → w.cell? ⟨b, off + j, none⟩ = some (.int .u8 (zs.getD j 0)) := fun j hj => by
    rcases h.cells with h0 | ⟨b', off', e, hc⟩
    · omega
    · cases e; exact hc j (by omega)
  have hbl : b < w.heap.size := cell_lt (hcell 0 (by omega))
  have d0 := hcell 0 (by omega)
  have d1 := hcell 1 (by omega)
  have d2 := hcell 2 (by omega)
  have d3 := hcell 3 (by omega)
  rw [Nat.add_zero] at d0
  have n1 : (240 : Int) ≤ n := by omega
  have n2 : (240 : Int) ≤ cap := by omega
  have n3 : ¬ cap = 236 := by omega
  generalize zs.getD 0 0 = x0 at *
  generalize zs.getD 1 0 = x1 at *
  generalize zs.getD 2 0 = x2 at *
  generalize zs.getD 3 0 = x3 at *
  clear h hcell hB
  unfold zeroArr
  go_enter Try.func8, Try.ntmps8
  rcases c0 with rfl | rfl
  · go_wp2
    refine bodyPost_ret (v := .tuple #[.agg #[.int .i64 0, .int .u32 0, .int .i64 0, .int .i64 0, .int .u32 0, .int .u32 0, .int .u32 0, .int .u32 0, .int .u64 0, .slice none 0 0], .int .i64 60]) ?_ rfl ⟨rfl, ?_⟩
    · simp [results, Try.results8, go_sem, *]
    · show Below _ _ _
      first | exact HB1.out | (repeat (first | exact HB1.out | refine Below.setCell ?_ (by simp) _ | refine Below.alloc ?_ (by simp) _))
  · go_wp2
    refine bodyPost_ret (v := .tuple #[.agg #[.int .i64 0, .int .u32 0, .int .i64 0, .int .i64 0, .int .u32 0, .int .u32 0, .int .u32 0, .int .u32 0, .int .u64 0, .slice none 0 0], .int .i64 60]) ?_ rfl ⟨rfl, ?_⟩
    · simp [results, Try.results8, go_sem, *]
    · show Below _ _ _
      first | exact HB1.out | (repeat (first | exact HB1.out | refine Below.setCell ?_ (by simp) _ | refine Below.alloc ?_ (by simp) _))
set_option maxHeartbeats 1000000 in
set_option maxRecDepth 20000 in
theorem rdecode_b2 (w : World) (b off n cap : Nat) (zs : List Int) (h : BS w (some ⟨b, off, none⟩) n zs) (hcap : n ≤ cap) (hn : 240 ≤ n) (c0 : zs.getD 0 0 = 1 ∨ zs.getD 0 0 = 2) (c1 : zs.getD 1 0 = 1) (c2 : ¬ zs.getD 2 0 = 6) :
    Calls Try.prog 8 #[.slice (some ⟨b, off, none⟩) n cap] w fun e w' => e = .returned (.tuple #[.agg zeroArr, .int .i64 60]) ∧ Below w.heap.size w w' := by
  have hr := h.room
  have hl := h.len
  have hB := below1 w (.cells #[.int .i64 0, .int .u32 0, .int .i64 0, .int .i64 0, .int .u32 0, .int .u32 0, .int .u32 0, .int .u32 0, .int .u64 0, .slice none 0 0] 27)
  have HB1 : Hid _ := hB
  have hcell : ∀ j, j < n → w.cell? ⟨b, off + j, none⟩ = some (.int .u8 (zs.getD j 0)) := fun j hj => by
    rcases h.cells with h0 | ⟨b', off', e, hc⟩
    · omega
    · cases e; exact hc j (by omega)
  have hbl : b < w.heap.size := cell_lt (hcell 0 (by omega))
  have d0 := hcell 0 (by omega)
  have d1 := hcell 1 (by omega)
  have d2 := hcell 2 (by omega)
  have d3 := hcell 3 (by omega)
  rw [Nat.add_zero] at d0
  have n1 : (240 : Int) ≤ n := by omega
  have n2 : (240 : Int) ≤ cap := by omega
  have n3 : ¬ cap = 236 := by omega
  generalize zs.getD 0 0 = x0 at *
  generalize zs.getD 1 0 = x1 at *
  generalize zs.getD 2 0 = x2 at *
  generalize zs.getD 3 0 = x3 at *
  clear h hcell hB
  unfold zeroArr
  go_enter Try.func8, Try.ntmps8
  subst c1
  rcases c0 with rfl | rfl
  · go_wp2
    refine bodyPost_ret (v := .tuple #[.agg #[.int .i64 0, .int .u32 0, .int .i64 0, .int .i64 0, .int .u32 0, .int .u32 0, .int .u32 0, .int .u32 0, .int .u64 0, .slice none 0 0], .int .i64 60]) ?_ rfl ⟨rfl, ?_⟩
    · simp [results, Try.results8, go_sem, *]
    · show Below _ _ _
      first | exact HB1.out | (repeat (first | exact HB1.out | refine Below.setCell ?_ (by simp) _ | refine Below.alloc ?_ (by simp) _))
  · go_wp2
    refine bodyPost_ret (v := .tuple #[.agg #[.int .i64 0, .int .u32 0, .int .i64 0, .int .i64 0, .int .u32 0, .int .u32 0, .int .u32 0, .int .u32 0, .int .u64 0, .slice none 0 0], .int .i64 60]) ?_ rfl ⟨rfl, ?_⟩
    · simp [results, Try.results8, go_sem, *]
    · show Below _ _ _
      first | exact HB1.out | (repeat (first | exact HB1.out | refine Below.setCell ?_ (by simp) _ | refine Below.alloc ?_ (by simp) _))
set_option maxHeartbeats 1000000 in
set_option maxRecDepth 20000 in
theorem rdecode_b3 (w : World) (b off n cap : Nat) (zs : List Int) (h : BS w (some ⟨b, off, none⟩) n zs) (hcap : n ≤ cap) (hn : 240 ≤ n) (c0 : zs.getD 0 0 = 1 ∨ zs.getD 0 0 = 2) (c1 : zs.getD 1 0 = 1) (c2 : zs.getD 2 0 = 6) (c3 : ¬ zs.getD 3 0 = 0) :
    Calls Try.prog 8 #[.slice (some ⟨b, off, none⟩) n cap] w fun e w' => e = .returned (.tuple #[.agg zeroArr, .int .i64 60]) ∧ Below w.heap.size w w' := by
  have hr := h.room
  have hl := h.len
  have hB := below1 w (.cells #[.int .i64 0, .int .u32 0, .int .i64 0, .int .i64 0, .int .u32 0, .int .u32 0, .int .u32 0, .int .u32 0, .int .u64 0, .slice none 0 0] 27)
  have HB1 : Hid _ := hB
  have hcell : ∀ j, j < n → w.cell? ⟨b, off + j, none⟩ = some (.int .u8 (zs.getD j 0)) := fun j hj => by
    rcases h.cells with h0 | ⟨b', off', e, hc⟩
    · omega
    · cases e; exact hc j (by omega)
  have hbl : b < w.heap.size := cell_lt (hcell 0 (by omega))
  have d0 := hcell 0 (by omega)
  have d1 := hcell 1 (by omega)
  have d2 := hcell 2 (by omega)
  have d3 := hcell 3 (by omega)
  rw [Nat.add_zero] at d0
  have n1 : (240 : Int) ≤ n := by omega
  have n2 : (240 : Int) ≤ cap := by omega
  have n3 : ¬ cap = 236 := by omega
  generalize zs.getD 0 0 = x0 at *
  generalize zs.getD 1 0 = x1 at *
  generalize zs.getD 2 0 = x2 at *
  generalize zs.getD 3 0 = x3 at *
  clear h hcell hB
  unfold zeroArr
  go_enter Try.func8, Try.ntmps8
  subst c1 c2
  rcases c0 with rfl | rfl
  · go_wp2
    refine bodyPost_ret (v := .tuple #[.agg #[.int .i64 0, .int .u32 0, .int .i64 0, .int .i64 0, .int .u32 0, .int .u32 0, .int .u32 0, .int .u32 0, .int .u64 0, .slice none 0 0], .int .i64 60]) ?_ rfl ⟨rfl, ?_⟩
    · simp [results, Try.results8, go_sem, *]
    · show Below _ _ _
      first | exact HB1.out | (repeat (first | exact HB1.out | refine Below.setCell ?_ (by simp) _ | refine Below.alloc ?_ (by simp) _))
  · go_wp2
    refine bodyPost_ret (v := .tuple #[.agg #[.int .i64 0, .int .u32 0, .int .i64 0, .int .i64 0, .int .u32 0, .int .u32 0, .int .u32 0, .int .u32 0, .int .u64 0, .slice none 0 0], .int .i64 60]) ?_ rfl ⟨rfl, ?_⟩
    · simp [results, Try.results8, go_sem, *]
    · show Below _ _ _
      first | exact HB1.out | (repeat (first | exact HB1.out | refine Below.setCell ?_ (by simp) _ | refine Below.alloc ?_ (by simp) _))
set_option maxHeartbeats 1000000 in
set_option maxRecDepth 20000 in
theorem rdecode_ck (w : World) (b off n cap : Nat) (zs : List Int) (h : BS w (some ⟨b, off, none⟩) n zs) (hcap : n ≤ cap) (hn : 240 ≤ n) (c0 : zs.getD 0 0 = 1 ∨ zs.getD 0 0 = 2) (c1 : zs.getD 1 0 = 1) (c2 : zs.getD 2 0 = 6) (c3 : zs.getD 3 0 = 0) (ck : ¬ num ((zs.drop 236).take 4) = 1669485411) :
    Calls Try.prog 8 #[.slice (some ⟨b, off, none⟩) n cap] w fun e w' => e = .returned (.tuple #[.agg zeroArr, .int .i64 60]) ∧ Below w.heap.size w w' := by
  have hr := h.room
  have hl := h.len
  have hB := below1 w (.cells #[.int .i64 0, .int .u32 0, .int .i64 0, .int .i64 0, .int .u32 0, .int .u32 0, .int .u32 0, .int .u32 0, .int .u64 0, .slice none 0 0] 27)
  have HB1 : Hid _ := hB
  have hcell : ∀ j, j < n → w.cell? ⟨b, off + j, none⟩ = some (.int .u8 (zs.getD j 0)) := fun j hj => by
    rcases h.cells with h0 | ⟨b', off', e, hc⟩
    · omega
    · cases e; exact hc j (by omega)
  have hbl : b < w.heap.size := cell_lt (hcell 0 (by omega))
  have d0 := hcell 0 (by omega)
  have d1 := hcell 1 (by omega)
  have d2 := hcell 2 (by omega)
  have d3 := hcell 3 (by omega)
  rw [Nat.add_zero] at d0
  have n1 : (240 : Int) ≤ n := by omega
  have n2 : (240 : Int) ≤ cap := by omega
  have n3 : ¬ cap = 236 := by omega
  have hd := h.drop (by omega) 236 (by omega)
  have HN : Hid _ := (hd.take 4 (by omega)).below hB
  generalize hv : num ((zs.drop 236).take 4) = v at ck
  have HV : Hid _ := hv
  have ckb : (v != 1669485411) = true := by simpa using ck
  clear hv hd ck
  generalize zs.getD 0 0 = x0 at *
  generalize zs.getD 1 0 = x1 at *
  generalize zs.getD 2 0 = x2 at *
  generalize zs.getD 3 0 = x3 at *
  clear h hcell hB
  unfold zeroArr
  go_enter Try.func8, Try.ntmps8
  subst c1 c2 c3
  rcases c0 with rfl | rfl
  · go_wp2_with fail
    refine (rnum_any _ HN.out (by omega)).mono ?_
    rw [HV.out]
    rintro e w1 ⟨rfl, rfl⟩
    go_wp2
    refine bodyPost_ret (v := .tuple #[.agg #[.int .i64 0, .int .u32 0, .int .i64 0, .int .i64 0, .int .u32 0, .int .u32 0, .int .u32 0, .int .u32 0, .int .u64 0, .slice none 0 0], .int .i64 60]) ?_ rfl ⟨rfl, ?_⟩
    · simp [results, Try.results8, go_sem, *]
    · show Below _ _ _
      first | exact HB1.out | (repeat (first | exact HB1.out | refine Below.setCell ?_ (by simp) _ | refine Below.alloc ?_ (by simp) _))
  · go_wp2_with fail
    refine (rnum_any _ HN.out (by omega)).mono ?_
    rw [HV.out]
    rintro e w1 ⟨rfl, rfl⟩
    go_wp2
    refine bodyPost_ret (v := .tuple #[.agg #[.int .i64 0, .int .u32 0, .int .i64 0, .int .i64 0, .int .u32 0, .int .u32 0, .int .u32 0, .int .u32 0, .int .u64 0, .slice none 0 0], .int .i64 60]) ?_ rfl ⟨rfl, ?_⟩
    · simp [results, Try.results8, go_sem, *]
    · show Below _ _ _
      first | exact HB1.out | (repeat (first | exact HB1.out | refine Below.setCell ?_ (by simp) _ | refine Below.alloc ?_ (by simp) _))
end Go.Proofs.Ytglaheblbomhpaa
