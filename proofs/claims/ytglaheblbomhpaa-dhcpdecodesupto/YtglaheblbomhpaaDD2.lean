/- What Answer of package dhcp answers where it has nothing to say. Conditions: as in DD. -/
import Derived.Test.YtglaheblbomhpaaDD
namespace Go.Proofs.Ytglaheblbomhpaa
open Go.RowKit
set_option maxHeartbeats 4000000 in
theorem answer_no (op xid secs flags ci yi si gi ch : Int) (a : Option Addr) (n cap : Nat) (os : List Opt) (mac ip server mask router time : Int) (h0 : 0 ≤ ip ∧ ip ≤ 4294967295) (h1 : 0 ≤ server ∧ server ≤ 4294967295) (w : World) (h : OS w a n os) (hy : ansB os op ch mac ip server = false) :
    Calls Try.prog 13 #[dhcpV op xid secs flags ci yi si gi ch (.slice a n cap), leaseV mac ip server mask router time] w fun e w' => e = .returned (.tuple #[zeroV, .bool false]) ∧ Below w.heap.size w w' := by
  unfold ansB at hy
  have Hk : Hid _ := kindS_vals (optS os 53)
  generalize hkk : kindS (optS os 53) = k at *
  have HK : Hid (kindS (optS os 53) = k) := hkk
  clear hkk
  have H : Hid _ := h
  clear h
  unfold leaseV zeroV
  have B2 := below2 w (.cells #[.int .i64 op, .int .u32 xid, .int .i64 secs, .int .i64 flags, .int .u32 ci, .int .u32 yi, .int .u32 si, .int .u32 gi, .int .u64 ch, .slice a n cap] 27) (.cells #[.int .u64 mac, .int .u32 ip, .int .u32 server, .int .u32 mask, .int .u32 router, .int .u32 time] 38)
  have B3 := B2.alloc B2.size (.cells #[.int .i64 0, .int .u32 0, .int .i64 0, .int .i64 0, .int .u32 0, .int .u32 0, .int .u32 0, .int .u32 0, .int .u64 0, .slice none 0 0] 27)
  have HB3 : Hid _ := B3
  clear B2 B3
  unfold dhcpV
  by_cases hk0 : k = 0
  · subst hk0
    clear hy
    go_enter Try.func13, Try.ntmps13
    go_wp2_with fail
    refine (kind_any _ _ _ _ _ _ _ _ _ a n cap os _ (H.out.below HB3.out)).mono ?_
    rw [HK.out]
    rintro e W1 ⟨rfl, hb1⟩
    obtain ⟨hc1, hf1⟩ := bcell hb1
    have HB1 : Hid (Below w.heap.size w W1) := HB3.out.trans (hb1.mono HB3.out.size)
    have hz1 : w.heap.size + 3 ≤ W1.heap.size := by have := hb1.size; simp at this; omega
    have hn0 : w.heap.size < W1.heap.size := by omega
    have hn1 : w.heap.size + 1 < W1.heap.size := by omega
    have hn2 : w.heap.size + 1 + 1 < W1.heap.size := by omega
    clear hb1 HB3
    go_wp2
    refine bodyPost_ret (v := .tuple #[.agg #[.int .i64 0, .int .u32 0, .int .i64 0, .int .i64 0, .int .u32 0, .int .u32 0, .int .u32 0, .int .u32 0, .int .u64 0, .slice none 0 0], .bool false]) ?_ rfl ⟨rfl, ?_⟩
    · simp [results, Try.results13, go_sem, *]
    · repeat refine Below.setCell ?_ (by simp; omega) _
      exact HB1.out
  have hk0' : (k == 0) = false := by simp [hk0]
  by_cases hop : ¬ op = 1
  · have hop' : (op == 1) = false := by simp [hop]
    clear hy hk0 hop
    go_enter Try.func13, Try.ntmps13
    go_wp2_with fail
    refine (kind_any _ _ _ _ _ _ _ _ _ a n cap os _ (H.out.below HB3.out)).mono ?_
    rw [HK.out]
    rintro e W1 ⟨rfl, hb1⟩
    obtain ⟨hc1, hf1⟩ := bcell hb1
    have HB1 : Hid (Below w.heap.size w W1) := HB3.out.trans (hb1.mono HB3.out.size)
    have hz1 : w.heap.size + 3 ≤ W1.heap.size := by have := hb1.size; simp at this; omega
    have hn0 : w.heap.size < W1.heap.size := by omega
    have hn1 : w.heap.size + 1 < W1.heap.size := by omega
    have hn2 : w.heap.size + 1 + 1 < W1.heap.size := by omega
    clear hb1 HB3
    go_wp2
    refine bodyPost_ret (v := .tuple #[.agg #[.int .i64 0, .int .u32 0, .int .i64 0, .int .i64 0, .int .u32 0, .int .u32 0, .int .u32 0, .int .u32 0, .int .u64 0, .slice none 0 0], .bool false]) ?_ rfl ⟨rfl, ?_⟩
    · simp [results, Try.results13, go_sem, *]
    · repeat refine Below.setCell ?_ (by simp; omega) _
      exact HB1.out
  obtain rfl := Classical.not_not.1 hop
  by_cases hch : ¬ ch = mac
  · have hch' : (ch == mac) = false := by simp [hch]
    clear hy hk0 hch
    go_enter Try.func13, Try.ntmps13
    go_wp2_with fail
    refine (kind_any _ _ _ _ _ _ _ _ _ a n cap os _ (H.out.below HB3.out)).mono ?_
    rw [HK.out]
    rintro e W1 ⟨rfl, hb1⟩
    obtain ⟨hc1, hf1⟩ := bcell hb1
    have HB1 : Hid (Below w.heap.size w W1) := HB3.out.trans (hb1.mono HB3.out.size)
    have hz1 : w.heap.size + 3 ≤ W1.heap.size := by have := hb1.size; simp at this; omega
    have hn0 : w.heap.size < W1.heap.size := by omega
    have hn1 : w.heap.size + 1 < W1.heap.size := by omega
    have hn2 : w.heap.size + 1 + 1 < W1.heap.size := by omega
    clear hb1 HB3
    go_wp2
    refine bodyPost_ret (v := .tuple #[.agg #[.int .i64 0, .int .u32 0, .int .i64 0, .int .i64 0, .int .u32 0, .int .u32 0, .int .u32 0, .int .u32 0, .int .u64 0, .slice none 0 0], .bool false]) ?_ rfl ⟨rfl, ?_⟩
    · simp [results, Try.results13, go_sem, *]
    · repeat refine Below.setCell ?_ (by simp; omega) _
      exact HB1.out
  obtain rfl := Classical.not_not.1 hch
  have hk5 : k = 5 := by
    rcases Hk.out with h | h | h
    · exact absurd h hk0
    · subst h; simp at hy
    · exact h
  subst hk5
  simp only [beq_self_eq_true, Bool.true_and, Bool.and_true] at hy
  cases h50 : otherB os 50 ip with
  | true =>
    have HO1 : Hid _ := h50
    clear h50 hy hk0 hk0'
    go_enter Try.func13, Try.ntmps13
    go_wp2_with fail
    refine (kind_any _ _ _ _ _ _ _ _ _ a n cap os _ (H.out.below HB3.out)).mono ?_
    rw [HK.out]
    rintro e W1 ⟨rfl, hb1⟩
    obtain ⟨hc1, hf1⟩ := bcell hb1
    have HB1 : Hid (Below w.heap.size w W1) := HB3.out.trans (hb1.mono HB3.out.size)
    have hz1 : w.heap.size + 3 ≤ W1.heap.size := by have := hb1.size; simp at this; omega
    have hn0 : w.heap.size < W1.heap.size := by omega
    have hn1 : w.heap.size + 1 < W1.heap.size := by omega
    have hn2 : w.heap.size + 1 + 1 < W1.heap.size := by omega
    clear hb1 HB3
    go_wp2_with fail
    refine (asks_any _ _ _ _ _ _ _ _ _ 50 _ h0 a n cap os _ (H.out.below HB1.out)).mono ?_
    rw [HO1.out]
    rintro e V1 ⟨rfl, hb1⟩
    obtain ⟨hdV1, heV1⟩ := bcell hb1
    have HV1 : Hid (Below w.heap.size w V1) := HB1.out.trans (hb1.mono HB1.out.size)
    have hzV1 : W1.heap.size ≤ V1.heap.size := hb1.size
    have ho0V1 : w.heap.size < V1.heap.size := by omega
    have ho1V1 : w.heap.size + 1 < V1.heap.size := by omega
    have ho2V1 : w.heap.size + 1 + 1 < V1.heap.size := by omega
    clear hb1 HB1
    go_wp2
    refine bodyPost_ret (v := .tuple #[.agg #[.int .i64 0, .int .u32 0, .int .i64 0, .int .i64 0, .int .u32 0, .int .u32 0, .int .u32 0, .int .u32 0, .int .u64 0, .slice none 0 0], .bool false]) ?_ rfl ⟨rfl, ?_⟩
    · simp [results, Try.results13, go_sem, *]
    · repeat refine Below.setCell ?_ (by simp; omega) _
      exact HV1.out
  | false =>
    have h54 : otherB os 54 server = true := by
      rw [h50] at hy
      simpa using hy
    have HO1 : Hid _ := h50
    have HO2 : Hid _ := h54
    clear h50 h54 hy hk0 hk0'
    go_enter Try.func13, Try.ntmps13
    go_wp2_with fail
    refine (kind_any _ _ _ _ _ _ _ _ _ a n cap os _ (H.out.below HB3.out)).mono ?_
    rw [HK.out]
    rintro e W1 ⟨rfl, hb1⟩
    obtain ⟨hc1, hf1⟩ := bcell hb1
    have HB1 : Hid (Below w.heap.size w W1) := HB3.out.trans (hb1.mono HB3.out.size)
    have hz1 : w.heap.size + 3 ≤ W1.heap.size := by have := hb1.size; simp at this; omega
    have hn0 : w.heap.size < W1.heap.size := by omega
    have hn1 : w.heap.size + 1 < W1.heap.size := by omega
    have hn2 : w.heap.size + 1 + 1 < W1.heap.size := by omega
    clear hb1 HB3
    go_wp2_with fail
    refine (asks_any _ _ _ _ _ _ _ _ _ 50 _ h0 a n cap os _ (H.out.below HB1.out)).mono ?_
    rw [HO1.out]
    rintro e V1 ⟨rfl, hb1⟩
    obtain ⟨hdV1, heV1⟩ := bcell hb1
    have HV1 : Hid (Below w.heap.size w V1) := HB1.out.trans (hb1.mono HB1.out.size)
    have hzV1 : W1.heap.size ≤ V1.heap.size := hb1.size
    have ho0V1 : w.heap.size < V1.heap.size := by omega
    have ho1V1 : w.heap.size + 1 < V1.heap.size := by omega
    have ho2V1 : w.heap.size + 1 + 1 < V1.heap.size := by omega
    clear hb1 HB1
    go_wp2_with fail
    refine (asks_any _ _ _ _ _ _ _ _ _ 54 _ h1 a n cap os _ (H.out.below HV1.out)).mono ?_
    rw [HO2.out]
    rintro e V2 ⟨rfl, hb1⟩
    obtain ⟨hdV2, heV2⟩ := bcell hb1
    have HV2 : Hid (Below w.heap.size w V2) := HV1.out.trans (hb1.mono HV1.out.size)
    have hzV2 : V1.heap.size ≤ V2.heap.size := hb1.size
    have ho0V2 : w.heap.size < V2.heap.size := by omega
    have ho1V2 : w.heap.size + 1 < V2.heap.size := by omega
    have ho2V2 : w.heap.size + 1 + 1 < V2.heap.size := by omega
    clear hb1 HV1
    go_wp2
    refine bodyPost_ret (v := .tuple #[.agg #[.int .i64 0, .int .u32 0, .int .i64 0, .int .i64 0, .int .u32 0, .int .u32 0, .int .u32 0, .int .u32 0, .int .u64 0, .slice none 0 0], .bool false]) ?_ rfl ⟨rfl, ?_⟩
    · simp [results, Try.results13, go_sem, *]
    · repeat refine Below.setCell ?_ (by simp; omega) _
      exact HV2.out
end Go.Proofs.Ytglaheblbomhpaa
