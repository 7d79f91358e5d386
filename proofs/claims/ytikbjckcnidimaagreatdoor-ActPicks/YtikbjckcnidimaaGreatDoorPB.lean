/- Ways in memory; Pick, Ports and Flow of a UDP or TCP packet; which ways may be. Conditions: as said. -/
import Derived.Test.YtikbjckcnidimaaGreatDoorAH
import Derived.Test.YtikbjckcnidimaaGreatDoorPA
namespace Go.Proofs.YtikbjckcnidimaaGreatDoor
open Go.RowKit
/-- A slice of n ways that can be read. -/
structure WS (w : World) (a : Option Addr) (n : Nat) (ws : List (Int × Int)) : Prop where
  len : ws.length = n
  room : n ≤ 1000000000000000
  cells : n = 0 ∨ ∃ b off, a = some ⟨b, off, none⟩ ∧ ∀ i t, ws[i]? = some t → w.cell? ⟨b, off + i * 2, none⟩ = some (.int .u32 t.1) ∧ w.cell? ⟨b, off + i * 2 + 1, none⟩ = some (.int .i64 t.2) ∧ (0 ≤ t.1 ∧ t.1 ≤ 4294967295) ∧ -9223372036854775808 ≤ t.2 ∧ t.2 ≤ 9223372036854775807
/-- A value that is such a slice. -/
def WVal (w : World) (v : Value) (ws : List (Int × Int)) : Prop := ∃ a n c, v = .slice a n c ∧ n ≤ c ∧ WS w a n ws
theorem WS.below {w w' : World} {a : Option Addr} {n : Nat} {ws : List (Int × Int)} (h : WS w a n ws) (hb : Below w.heap.size w w') : WS w' a n ws := by
  refine ⟨h.len, h.room, ?_⟩
  rcases h.cells with h0 | ⟨b, off, rfl, hc⟩
  · exact .inl h0
  · refine .inr ⟨b, off, rfl, fun i t hi => ?_⟩
    obtain ⟨c0, c1, c2⟩ := hc i t hi
    exact ⟨(hb.cell (cell_lt c0)).trans c0, (hb.cell (cell_lt c1)).trans c1, c2⟩
theorem WS.empty {w : World} (a : Option Addr) : WS w a 0 [] := ⟨rfl, by omega, .inl rfl⟩
set_option maxHeartbeats 400000 in
theorem spick_any (h : Int) (h0 : 0 ≤ h) (h1 : h ≤ 4294967295) (n : Nat) (hn : 1 ≤ n) (hn2 : n ≤ 64) (w : World) : Calls Tryz.prog 112 #[.int .u32 h, .int .i64 n] w fun e w' => e = .returned (.int .i64 ((h.toNat % n : Nat) : Int)) ∧ w' = w := by
  have hnI : 1 ≤ (n : Int) := by omega
  have hn64 : (n : Int) ≤ 64 := by omega
  have hm : h % (n : Int) = ((h.toNat % n : Nat) : Int) := by
    obtain ⟨k, rfl⟩ := Int.eq_ofNat_of_zero_le h0
    simp
  have hm0 : 0 ≤ h % (n : Int) := Int.emod_nonneg _ (by omega)
  have hm1 : h % (n : Int) < n := Int.emod_lt_of_pos _ (by omega)
  have HM : Hid _ := hm
  clear hm
  go_enter Tryz.func112, Tryz.ntmps112
  go_wp2
  go_ret
  exact ⟨by rw [← HM.out]; rfl, rfl⟩
/-- What a packet's flow is by its cells. -/
def flowC (cs : Array Value) : Int := hashOf (numAt cs 17) (numAt cs 18) (numAt cs 16) (numAt cs 24) (numAt cs 25)
set_option maxRecDepth 20000 in
set_option maxHeartbeats 1000000 in
theorem ports_l4 (ps : Array Value) (k sp dp : Int) (hk : k = 2 ∨ k = 3) (h11 : ps[11]? = some (.bool true)) (h20 : ps[20]? = some (.int .i64 k)) (h24 : ps[24]? = some (.int .i64 sp)) (h25 : ps[25]? = some (.int .i64 dp)) (w : World) :
    Calls Tryz.prog 145 #[.agg ps] w fun e w' => e = .returned (.tuple #[.int .i64 sp, .int .i64 dp]) ∧ Below w.heap.size w w' := by
  rcases hk with rfl | rfl
  all_goals
    go_enter Tryz.func145, Tryz.ntmps145
    go_wp2_with fail
    go_quiet (fail)
    go_wp2
    go_ret2
    exact ⟨rfl, below_drewN (below1 _ _) _⟩
theorem hashOf_bd (a b c d e : Int) : 0 ≤ hashOf a b c d e ∧ hashOf a b c d e ≤ 4294967295 := by
  unfold hashOf
  simp only [List.foldl]
  exact mx_bd _ _
set_option maxRecDepth 20000 in
set_option maxHeartbeats 1000000 in
theorem flow_l4 (ps : Array Value) (hs : ps.size = 36) (k src dst pr sp dp : Int) (hk : k = 2 ∨ k = 3) (b1 : 0 ≤ src ∧ src ≤ 4294967295) (b2 : 0 ≤ dst ∧ dst ≤ 4294967295) (h11 : ps[11]? = some (.bool true)) (h20 : ps[20]? = some (.int .i64 k)) (h24 : ps[24]? = some (.int .i64 sp)) (h25 : ps[25]? = some (.int .i64 dp))
    (h16 : ps[16]? = some (.int .i64 pr)) (h17 : ps[17]? = some (.int .u32 src)) (h18 : ps[18]? = some (.int .u32 dst)) (w : World) :
    Calls Tryz.prog 113 #[.agg ps] w fun e w' => e = .returned (.int .u32 (hashOf src dst pr sp dp)) ∧ Below w.heap.size w w' := by
  have HI : Hid _ := (show (Tryz.prog.info? 45).map (·.size) = some ps.size by rw [hs]; exact size36)
  have HN : Hid _ := heap_alloc_new w (.cells ps 45)
  have HK : Hid _ := ports_l4 ps k sp dp hk h11 h20 h24 h25
  clear hs
  go_enter Tryz.func113, Tryz.ntmps113
  go_wp2_with (first
    | refine wpList_load_row rfl 45 _ rfl w.heap.size rfl 45 ps (0, 0) _ HN.out Tryz.underlying45 rfl HI.out ?_
    | fail)
  refine (HK.out _).mono ?_
  rintro e W1 ⟨rfl, hb1⟩
  have hS1 : W1.heap[w.heap.size]? = some (.cells ps 45 (0, 0)) := (hb1.block _ (by simp)).trans (heap_alloc_new _ _)
  have c16 := (cell_row hS1 16).trans h16
  have c17 := (cell_row hS1 17).trans h17
  have c18 := (cell_row hS1 18).trans h18
  have HB1 : Hid (Below w.heap.size w W1) := (below1 w _).trans (hb1.mono (by simp))
  clear hb1 hS1
  go_wp2_with fail
  refine (hash_any _ src dst pr sp dp b1 b2).mono ?_
  rintro e W2 ⟨rfl, hb2⟩
  have HB2 : Hid (Below w.heap.size w W2) := HB1.out.trans (hb2.mono HB1.out.size)
  clear hb2 c16 c17 c18
  go_wp2
  go_ret
  exact ⟨rfl, HB2.out⟩
theorem fits16 (v : Int) : (v / 65536 == 0) = decide (0 ≤ v ∧ v ≤ 65535) := by
  rw [Bool.eq_iff_iff]; simp; omega
set_option maxHeartbeats 400000 in
theorem fits_any (v : Int) (w : World) : Calls Tryz.prog 110 #[.int .i64 v, .int .u64 16] w fun e w' => e = .returned (.bool (v / 65536 == 0)) ∧ w' = w := by
  go_enter Tryz.func110, Tryz.ntmps110
  go_wp2
  go_ret
  exact ⟨rfl, rfl⟩
end Go.Proofs.YtikbjckcnidimaaGreatDoor
