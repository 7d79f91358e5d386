/- What Answer of the reference of dhcp answers where it has nothing to say. Conditions: the options can be read; numbers of 32 bits. -/
import Derived.Test.YtglaheblbomhpaaRA
namespace Go.Proofs.Ytglaheblbomhpaa
open Go.RowKit

theorem str_ne {s t : ByteArray} (h : s ≠ t) : (s.toList == t.toList) = false := by
  rw [Bool.eq_false_iff]
  intro e
  apply h
  have e2 := eq_of_beq e
  rw [ByteArray.toList_eq, ByteArray.toList_eq] at e2
  obtain ⟨⟨x⟩⟩ := s
  obtain ⟨⟨y⟩⟩ := t
  simp at e2
  rw [e2]
theorem t1_lit {s : ByteArray} {x : UInt8} (h : (s.toList == (⟨#[x]⟩ : ByteArray).toList) = false) : (s.toList == [x]) = false := by
  rw [← ByteArray.toList_mk [x]]
  exact h
theorem kindS_three : kindS ⟨#[3]⟩ = 5 := by decide

set_option maxHeartbeats 4000000 in
theorem ranswer_no (op xid secs flags ci yi si gi ch : Int) (a : Option Addr) (n cap : Nat) (os : List Opt) (mac ip server mask router time : Int) (h0 : 0 ≤ ip ∧ ip ≤ 4294967295) (h1 : 0 ≤ server ∧ server ≤ 4294967295) (w : World) (h : OS w a n os) (hy : ansB os op ch mac ip server = false) :
    Calls Try.prog 14 #[dhcpV op xid secs flags ci yi si gi ch (.slice a n cap), leaseV mac ip server mask router time] w fun e w' => e = .returned (.tuple #[zeroV, .bool false]) ∧ Below w.heap.size w w' := by
  unfold ansB at hy
  unfold zeroV
  have H : Hid _ := h
  clear h
  obtain ⟨bf, hfv, _⟩ := findV_optS os 53
  have HF : Hid _ := hfv
  clear hfv
  unfold leaseV
  have B2 := below2 w (.cells #[.int .i64 op, .int .u32 xid, .int .i64 secs, .int .i64 flags, .int .u32 ci, .int .u32 yi, .int .u32 si, .int .u32 gi, .int .u64 ch, .slice a n cap] 27) (.cells #[.int .u64 mac, .int .u32 ip, .int .u32 server, .int .u32 mask, .int .u32 router, .int .u32 time] 38)
  have B3 := B2.alloc B2.size (.cells #[.int .i64 0, .int .u32 0, .int .i64 0, .int .i64 0, .int .u32 0, .int .u32 0, .int .u32 0, .int .u32 0, .int .u64 0, .slice none 0 0] 27)
  have HB3 : Hid _ := B3
  clear B2 B3
  unfold dhcpV
  generalize optS os 53 = s at *
  by_cases hop : ¬ op = 1
  · have hop' : (op == 1) = false := by simp [hop]
    have hop2 : (op != 1) = true := by simp [hop]
    clear hy
    go_enter Try.func14, Try.ntmps14
    go_wp2_with fail
    refine (rfind_any _ _ _ _ _ _ _ _ _ 53 a n cap os _ (H.out.below HB3.out)).mono ?_
    rw [HF.out]
    rintro e W1 ⟨rfl, hw1⟩
    have hb1 := below1 (((w.alloc (.cells #[.int .i64 op, .int .u32 xid, .int .i64 secs, .int .i64 flags, .int .u32 ci, .int .u32 yi, .int .u32 si, .int .u32 gi, .int .u64 ch, .slice a n cap] 27)).alloc (.cells #[.int .u64 mac, .int .u32 ip, .int .u32 server, .int .u32 mask, .int .u32 router, .int .u32 time] 38)).alloc (.cells #[.int .i64 0, .int .u32 0, .int .i64 0, .int .i64 0, .int .u32 0, .int .u32 0, .int .u32 0, .int .u32 0, .int .u64 0, .slice none 0 0] 27)) (.cells #[.int .i64 op, .int .u32 xid, .int .i64 secs, .int .i64 flags, .int .u32 ci, .int .u32 yi, .int .u32 si, .int .u32 gi, .int .u64 ch, .slice a n cap] 27)
    rw [← hw1] at hb1
    clear hw1
    obtain ⟨hc1, hf1⟩ := bcell hb1
    have HB1 : Hid (Below w.heap.size w W1) := HB3.out.trans (hb1.mono HB3.out.size)
    have hz1 : w.heap.size + 3 ≤ W1.heap.size := by have := hb1.size; simp at this; omega
    have hn0 : w.heap.size < W1.heap.size := by omega
    have hn1 : w.heap.size + 1 < W1.heap.size := by omega
    have hn2 : w.heap.size + 1 + 1 < W1.heap.size := by omega
    clear hb1 HB3
    go_wp2
    refine bodyPost_ret (v := .tuple #[.agg #[.int .i64 0, .int .u32 0, .int .i64 0, .int .i64 0, .int .u32 0, .int .u32 0, .int .u32 0, .int .u32 0, .int .u64 0, .slice none 0 0], .bool false]) ?_ rfl ⟨rfl, ?_⟩
    · simp [results, Try.results14, go_sem, *]
    · repeat refine Below.setCell ?_ (by simp; omega) _
      exact HB1.out
  obtain rfl := Classical.not_not.1 hop
  by_cases hch : ¬ ch = mac
  · have hch' : (ch == mac) = false := by simp [hch]
    have hch2 : (ch != mac) = true := by simp [hch]
    clear hy
    go_enter Try.func14, Try.ntmps14
    go_wp2_with fail
    refine (rfind_any _ _ _ _ _ _ _ _ _ 53 a n cap os _ (H.out.below HB3.out)).mono ?_
    rw [HF.out]
    rintro e W1 ⟨rfl, hw1⟩
    have hb1 := below1 (((w.alloc (.cells #[.int .i64 1, .int .u32 xid, .int .i64 secs, .int .i64 flags, .int .u32 ci, .int .u32 yi, .int .u32 si, .int .u32 gi, .int .u64 ch, .slice a n cap] 27)).alloc (.cells #[.int .u64 mac, .int .u32 ip, .int .u32 server, .int .u32 mask, .int .u32 router, .int .u32 time] 38)).alloc (.cells #[.int .i64 0, .int .u32 0, .int .i64 0, .int .i64 0, .int .u32 0, .int .u32 0, .int .u32 0, .int .u32 0, .int .u64 0, .slice none 0 0] 27)) (.cells #[.int .i64 1, .int .u32 xid, .int .i64 secs, .int .i64 flags, .int .u32 ci, .int .u32 yi, .int .u32 si, .int .u32 gi, .int .u64 ch, .slice a n cap] 27)
    rw [← hw1] at hb1
    clear hw1
    obtain ⟨hc1, hf1⟩ := bcell hb1
    have HB1 : Hid (Below w.heap.size w W1) := HB3.out.trans (hb1.mono HB3.out.size)
    have hz1 : w.heap.size + 3 ≤ W1.heap.size := by have := hb1.size; simp at this; omega
    have hn0 : w.heap.size < W1.heap.size := by omega
    have hn1 : w.heap.size + 1 < W1.heap.size := by omega
    have hn2 : w.heap.size + 1 + 1 < W1.heap.size := by omega
    clear hb1 HB3
    go_wp2
    refine bodyPost_ret (v := .tuple #[.agg #[.int .i64 0, .int .u32 0, .int .i64 0, .int .i64 0, .int .u32 0, .int .u32 0, .int .u32 0, .int .u32 0, .int .u64 0, .slice none 0 0], .bool false]) ?_ rfl ⟨rfl, ?_⟩
    · simp [results, Try.results14, go_sem, *]
    · repeat refine Below.setCell ?_ (by simp; omega) _
      exact HB1.out
  obtain rfl := Classical.not_not.1 hch
  clear hop hch
  by_cases hs1 : s = ⟨#[1]⟩
  · subst hs1
    simp [kindS] at hy
  by_cases hs3 : s = ⟨#[3]⟩
  · subst hs3
    rw [kindS_three] at hy
    simp only [beq_self_eq_true, Bool.true_and, Bool.and_true] at hy
    clear hs1
    have t1 : ((⟨#[3]⟩ : ByteArray).toList == (⟨#[1]⟩ : ByteArray).toList) = false := str_ne (by decide)
    have t3 : ((⟨#[3]⟩ : ByteArray).toList == (⟨#[3]⟩ : ByteArray).toList) = true := by simp
    cases h50 : otherB os 50 ip with
    | true =>
      have HO1 : Hid _ := h50
      clear h50 hy
      go_enter Try.func14, Try.ntmps14
      go_wp2_with fail
      refine (rfind_any _ _ _ _ _ _ _ _ _ 53 a n cap os _ (H.out.below HB3.out)).mono ?_
      rw [HF.out]
      rintro e W1 ⟨rfl, hw1⟩
      have hb1 := below1 (((w.alloc (.cells #[.int .i64 1, .int .u32 xid, .int .i64 secs, .int .i64 flags, .int .u32 ci, .int .u32 yi, .int .u32 si, .int .u32 gi, .int .u64 ch, .slice a n cap] 27)).alloc (.cells #[.int .u64 ch, .int .u32 ip, .int .u32 server, .int .u32 mask, .int .u32 router, .int .u32 time] 38)).alloc (.cells #[.int .i64 0, .int .u32 0, .int .i64 0, .int .i64 0, .int .u32 0, .int .u32 0, .int .u32 0, .int .u32 0, .int .u64 0, .slice none 0 0] 27)) (.cells #[.int .i64 1, .int .u32 xid, .int .i64 secs, .int .i64 flags, .int .u32 ci, .int .u32 yi, .int .u32 si, .int .u32 gi, .int .u64 ch, .slice a n cap] 27)
      rw [← hw1] at hb1
      clear hw1
      obtain ⟨hc1, hf1⟩ := bcell hb1
      have HB1 : Hid (Below w.heap.size w W1) := HB3.out.trans (hb1.mono HB3.out.size)
      have hz1 : w.heap.size + 3 ≤ W1.heap.size := by have := hb1.size; simp at this; omega
      have hn0 : w.heap.size < W1.heap.size := by omega
      have hn1 : w.heap.size + 1 < W1.heap.size := by omega
      have hn2 : w.heap.size + 1 + 1 < W1.heap.size := by omega
      clear hb1 HB3
      go_wp2_with fail
      refine (says_any _ _ _ _ _ _ _ _ _ 50 _ h0 a n cap os _ (H.out.below HB1.out)).mono ?_
      rw [HO1.out]
      rintro e V1 ⟨rfl, hb1⟩
      obtain ⟨hdV1, heV1⟩ := bcell hb1
      have HV1 : Hid (Below w.heap.size w V1) := HB1.out.trans (hb1.mono HB1.out.size)
      have hzV1 : W1.heap.size ≤ V1.heap.size := hb1.size
      have ho0V1 : w.heap.size < V1.heap.size := by omega
      have ho1V1 : w.heap.size + 1 < V1.heap.size := by omega
      have ho2V1 : w.heap.size + 1 + 1 < V1.heap.size := by omega
      clear hb1 HB1
      go_wp2
      refine bodyPost_ret (v := .tuple #[.agg #[.int .i64 0, .int .u32 0, .int .i64 0, .int .i64 0, .int .u32 0, .int .u32 0, .int .u32 0, .int .u32 0, .int .u64 0, .slice none 0 0], .bool false]) ?_ rfl ⟨rfl, ?_⟩
      · simp [results, Try.results14, go_sem, *]
      · repeat refine Below.setCell ?_ (by simp; omega) _
        exact HV1.out
    | false =>
      have h54 : otherB os 54 server = true := by
        rw [h50] at hy
        simpa using hy
      have HO1 : Hid _ := h50
      have HO2 : Hid _ := h54
      clear h50 h54 hy
      go_enter Try.func14, Try.ntmps14
      go_wp2_with fail
      refine (rfind_any _ _ _ _ _ _ _ _ _ 53 a n cap os _ (H.out.below HB3.out)).mono ?_
      rw [HF.out]
      rintro e W1 ⟨rfl, hw1⟩
      have hb1 := below1 (((w.alloc (.cells #[.int .i64 1, .int .u32 xid, .int .i64 secs, .int .i64 flags, .int .u32 ci, .int .u32 yi, .int .u32 si, .int .u32 gi, .int .u64 ch, .slice a n cap] 27)).alloc (.cells #[.int .u64 ch, .int .u32 ip, .int .u32 server, .int .u32 mask, .int .u32 router, .int .u32 time] 38)).alloc (.cells #[.int .i64 0, .int .u32 0, .int .i64 0, .int .i64 0, .int .u32 0, .int .u32 0, .int .u32 0, .int .u32 0, .int .u64 0, .slice none 0 0] 27)) (.cells #[.int .i64 1, .int .u32 xid, .int .i64 secs, .int .i64 flags, .int .u32 ci, .int .u32 yi, .int .u32 si, .int .u32 gi, .int .u64 ch, .slice a n cap] 27)
      rw [← hw1] at hb1
      clear hw1
      obtain ⟨hc1, hf1⟩ := bcell hb1
      have HB1 : Hid (Below w.heap.size w W1) := HB3.out.trans (hb1.mono HB3.out.size)
      have hz1 : w.heap.size + 3 ≤ W1.heap.size := by have := hb1.size; simp at this; omega
      have hn0 : w.heap.size < W1.heap.size := by omega
      have hn1 : w.heap.size + 1 < W1.heap.size := by omega
      have hn2 : w.heap.size + 1 + 1 < W1.heap.size := by omega
      clear hb1 HB3
      go_wp2_with fail
      refine (says_any _ _ _ _ _ _ _ _ _ 50 _ h0 a n cap os _ (H.out.below HB1.out)).mono ?_
      rw [HO1.out]
      rintro e V1 ⟨rfl, hb1⟩
      obtain ⟨hdV1, heV1⟩ := bcell hb1
      have HV1 : Hid (Below w.heap.size w V1) := HB1.out.trans (hb1.mono HB1.out.size)
      have hzV1 : W1.heap.size ≤ V1.heap.size := hb1.size
      have ho0V1 : w.heap.size < V1.heap.size := by omega
      have ho1V1 : w.heap.size + 1 < V1.heap.size := by omega
      have ho2V1 : w.heap.size + 1 + 1 < V1.heap.size := by omega
      clear hb1 HB1
      go_wp2_with fail
      refine (says_any _ _ _ _ _ _ _ _ _ 54 _ h1 a n cap os _ (H.out.below HV1.out)).mono ?_
      rw [HO2.out]
      rintro e V2 ⟨rfl, hb1⟩
      obtain ⟨hdV2, heV2⟩ := bcell hb1
      have HV2 : Hid (Below w.heap.size w V2) := HV1.out.trans (hb1.mono HV1.out.size)
      have hzV2 : V1.heap.size ≤ V2.heap.size := hb1.size
      have ho0V2 : w.heap.size < V2.heap.size := by omega
      have ho1V2 : w.heap.size + 1 < V2.heap.size := by omega
      have ho2V2 : w.heap.size + 1 + 1 < V2.heap.size := by omega
      clear hb1 HV1
      go_wp2
      refine bodyPost_ret (v := .tuple #[.agg #[.int .i64 0, .int .u32 0, .int .i64 0, .int .i64 0, .int .u32 0, .int .u32 0, .int .u32 0, .int .u32 0, .int .u64 0, .slice none 0 0], .bool false]) ?_ rfl ⟨rfl, ?_⟩
      · simp [results, Try.results14, go_sem, *]
      · repeat refine Below.setCell ?_ (by simp; omega) _
        exact HV2.out
  · have t1 : (s.toList == (⟨#[1]⟩ : ByteArray).toList) = false := str_ne hs1
    have t3 : (s.toList == (⟨#[3]⟩ : ByteArray).toList) = false := str_ne hs3
    have t1' : (s.toList == [1]) = false := t1_lit t1
    have t3' : (s.toList == [3]) = false := t1_lit t3
    clear hy hs1 hs3
    go_enter Try.func14, Try.ntmps14
    go_wp2_with fail
    refine (rfind_any _ _ _ _ _ _ _ _ _ 53 a n cap os _ (H.out.below HB3.out)).mono ?_
    rw [HF.out]
    rintro e W1 ⟨rfl, hw1⟩
    have hb1 := below1 (((w.alloc (.cells #[.int .i64 1, .int .u32 xid, .int .i64 secs, .int .i64 flags, .int .u32 ci, .int .u32 yi, .int .u32 si, .int .u32 gi, .int .u64 ch, .slice a n cap] 27)).alloc (.cells #[.int .u64 ch, .int .u32 ip, .int .u32 server, .int .u32 mask, .int .u32 router, .int .u32 time] 38)).alloc (.cells #[.int .i64 0, .int .u32 0, .int .i64 0, .int .i64 0, .int .u32 0, .int .u32 0, .int .u32 0, .int .u32 0, .int .u64 0, .slice none 0 0] 27)) (.cells #[.int .i64 1, .int .u32 xid, .int .i64 secs, .int .i64 flags, .int .u32 ci, .int .u32 yi, .int .u32 si, .int .u32 gi, .int .u64 ch, .slice a n cap] 27)
    rw [← hw1] at hb1
    clear hw1
    obtain ⟨hc1, hf1⟩ := bcell hb1
    have HB1 : Hid (Below w.heap.size w W1) := HB3.out.trans (hb1.mono HB3.out.size)
    have hz1 : w.heap.size + 3 ≤ W1.heap.size := by have := hb1.size; simp at this; omega
    have hn0 : w.heap.size < W1.heap.size := by omega
    have hn1 : w.heap.size + 1 < W1.heap.size := by omega
    have hn2 : w.heap.size + 1 + 1 < W1.heap.size := by omega
    clear hb1 HB3
    go_wp2
    refine bodyPost_ret (v := .tuple #[.agg #[.int .i64 0, .int .u32 0, .int .i64 0, .int .i64 0, .int .u32 0, .int .u32 0, .int .u32 0, .int .u32 0, .int .u64 0, .slice none 0 0], .bool false]) ?_ rfl ⟨rfl, ?_⟩
    · simp [results, Try.results14, go_sem, *]
    · repeat refine Below.setCell ?_ (by simp; omega) _
      exact HB1.out
end Go.Proofs.Ytglaheblbomhpaa
