/- The reference's Decode of dhcp: numbers of four bytes, and its refusal of what is no message. Conditions: the bytes can be read. -/
import Derived.Test.YtglaheblbomhpaaFB
import Derived.Deep.RegionHeld3
import Derived.Deep.RegionWith
import Derived.Deep.DrawnRows
namespace Go.Proofs.Ytglaheblbomhpaa
open Go.RowKit
set_option maxHeartbeats 400000 in
theorem at4_any (w : World) (b off n cap : Nat) (zs : List Int) (h : BS w (some ⟨b, off, none⟩) n zs) (hcap : n ≤ cap) (t : Nat) (ht : t + 4 ≤ n) :
    Calls Try.prog 22 #[.slice (some ⟨b, off, none⟩) n cap, .int .i64 t] w fun e w' => e = .returned (.int .u32 (num ((zs.drop t).take 4))) ∧ w' = w := by
  have hr := h.room
  have hn0 : 0 < n := by omega
  have hd := h.drop hn0 t (by omega)
  have hbd := num_bd (zs.drop t) hd.fits 4
  have h44 : (256 : Int) ^ 4 = 4294967296 := by decide
  rw [h44] at hbd
  have H : Hid _ := hd.take 4 (by omega)
  have h1 : (t : Int) ≤ (cap : Int) := by omega
  have h2 : (t : Int) + 4 ≤ (cap : Int) := by omega
  have h3 : ¬ cap = t := by omega
  clear h hd h44
  generalize hv : num ((zs.drop t).take 4) = v at hbd ⊢
  have hw : IntKind.u32.wrap v = v := by rw [IntKind.wrap_u32]; omega
  have HV : Hid _ := hv
  clear hv
  go_enter Try.func22, Try.ntmps22
  go_wp2_with fail
  refine (rnum_any _ H.out (by omega)).mono ?_
  rw [HV.out]
  rintro e w1 ⟨rfl, rfl⟩
  go_wp2
  go_ret
  exact ⟨rfl, rfl⟩


set_option maxHeartbeats 1000000 in
set_option maxRecDepth 20000 in
theorem rdecode_short (w : World) (b off n cap : Nat) (zs : List Int) (h : BS w (some ⟨b, off, none⟩) n zs) (_hcap : n ≤ cap) (hn : n < 240) :
    Calls Try.prog 8 #[.slice (some ⟨b, off, none⟩) n cap] w fun e w' => e = .returned (.tuple #[.agg zeroArr, .int .i64 60]) ∧ Below w.heap.size w w' := by
  have hr := h.room
  have hl := h.len
  have hB := below1 w (.cells #[.int .i64 0, .int .u32 0, .int .i64 0, .int .i64 0, .int .u32 0, .int .u32 0, .int .u32 0, .int .u32 0, .int .u64 0, .slice none 0 0] 27)
  have HB1 : Hid _ := hB
  have n0 : (n : Int) < 240 := by omega
  clear h hB
  unfold zeroArr
  go_enter Try.func8, Try.ntmps8
  go_wp2
  refine bodyPost_ret (v := .tuple #[.agg #[.int .i64 0, .int .u32 0, .int .i64 0, .int .i64 0, .int .u32 0, .int .u32 0, .int .u32 0, .int .u32 0, .int .u64 0, .slice none 0 0], .int .i64 60]) ?_ rfl ⟨rfl, ?_⟩
  · simp [results, Try.results8, go_sem, *]
  · show Below _ _ _
    first | exact HB1.out | (repeat (first | exact HB1.out | refine Below.setCell ?_ (by simp) _ | refine Below.alloc ?_ (by simp) _))

set_option maxHeartbeats 1000000 in
set_option maxRecDepth 20000 in
theorem rdecode_op (w : World) (b off n cap : Nat) (zs : List Int) (h : BS w (some ⟨b, off, none⟩) n zs) (hcap : n ≤ cap) (hn : 240 ≤ n) (c0 : (zs.getD 0 0 == 1) = false) (c0' : (zs.getD 0 0 == 2) = false) :
    Calls Try.prog 8 #[.slice (some ⟨b, off, none⟩) n cap] w fun e w' => e = .returned (.tuple #[.agg zeroArr, .int .i64 60]) ∧ Below w.heap.size w w' := by
  have hr := h.room
  have hl := h.len
  have hB := below1 w (.cells #[.int .i64 0, .int .u32 0, .int .i64 0, .int .i64 0, .int .u32 0, .int .u32 0, .int .u32 0, .int .u32 0, .int .u64 0, .slice none 0 0] 27)
  have HB1 : Hid _ := hB
  have hcell : ∀ j, j < n → w.cell? ⟨b, off + j, none⟩ = some (.int .u8 (zs.getD j 0)) := fun j hj => by
    rcases h.cells with h0 | ⟨b', off', e, hc⟩
    · omega
    · cases e; exact hc j (by omega)
  have hbl : b < w.heap.size := cell_lt (hcell 0 (by omega))
  have d0 := hcell 0 (by omega)
  have d1 := hcell 1 (by omega)
  have d2 := hcell 2 (by omega)
  have d3 := hcell 3 (by omega)
  rw [Nat.add_zero] at d0
  have n1 : (240 : Int) ≤ n := by omega
  have n2 : (240 : Int) ≤ cap := by omega
  have n3 : ¬ cap = 236 := by omega
  generalize zs.getD 0 0 = x0 at *
  generalize zs.getD 1 0 = x1 at *
  generalize zs.getD 2 0 = x2 at *
  generalize zs.getD 3 0 = x3 at *
  clear h hcell hB
  have e0 : ¬ x0 = 1 := by simpa using c0
  have e0' : ¬ x0 = 2 := by simpa using c0'
  unfold zeroArr
  go_enter Try.func8, Try.ntmps8
  go_wp2
  refine bodyPost_ret (v := .tuple #[.agg #[.int .i64 0, .int .u32 0, .int .i64 0, .int .i64 0, .int .u32 0, .int .u32 0, .int .u32 0, .int .u32 0, .int .u64 0, .slice none 0 0], .int .i64 60]) ?_ rfl ⟨rfl, ?_⟩
  · simp [results, Try.results8, go_sem, *]
  · show Below _ _ _
    first | exact HB1.out | (repeat (first | exact HB1.out | refine Below.setCell ?_ (by simp) _ | refine Below.alloc ?_ (by simp) _))
end Go.Proofs.Ytglaheblbomhpaa
