/- The law DhcpAnswers where nothing is answered. Conditions: numbers of their kinds, options that can be read. -/
import Derived.Test.YtjoekmcogmfhjaaDK
namespace Go.Proofs.Ytjoekmcogmfhjaa
open Go.RowKit

set_option maxHeartbeats 8000000 in
theorem answers_false (w : World) (op xid secs flags ci yi si gi ch : Int) (a : Option Addr) (n cap : Nat) (os : List Opt) (hos : OS w a n os) (_hx : 0 ≤ xid ∧ xid ≤ 4294967295) (_hgi : 0 ≤ gi ∧ gi ≤ 4294967295) (_hch : 0 ≤ ch ∧ ch ≤ 18446744073709551615) (mac ip server mask router time : Int) (h0 : 0 ≤ ip ∧ ip ≤ 4294967295) (h1 : 0 ≤ server ∧ server ≤ 4294967295) (_h2 : 0 ≤ mask ∧ mask ≤ 4294967295) (_h3 : 0 ≤ router ∧ router ≤ 4294967295) (_h4 : 0 ≤ time ∧ time ≤ 4294967295) (code : Int) (hy : ansB os op ch mac ip server = false) :
    Calls Try.prog 5 #[dhcpV op xid secs flags ci yi si gi ch (.slice a n cap), leaseV mac ip server mask router time, .int .i64 code] w fun e w' => e = .returned (.bool true) ∧ Below w.heap.size w w' := by
  have b2 := below2 w (.cells #[.int .i64 op, .int .u32 xid, .int .i64 secs, .int .i64 flags, .int .u32 ci, .int .u32 yi, .int .u32 si, .int .u32 gi, .int .u64 ch, .slice a n cap] 27) (.cells #[.int .u64 mac, .int .u32 ip, .int .u32 server, .int .u32 mask, .int .u32 router, .int .u32 time] 38)
  have aM0 := AtB.below (atB_new w #[.int .i64 op, .int .u32 xid, .int .i64 secs, .int .i64 flags, .int .u32 ci, .int .u32 yi, .int .u32 si, .int .u32 gi, .int .u64 ch, .slice a n cap] 27 w.heap.size rfl) (below1 _ (.cells #[.int .u64 mac, .int .u32 ip, .int .u32 server, .int .u32 mask, .int .u32 router, .int .u32 time] 38))
  have aL0 := atB_new (w.alloc (.cells #[.int .i64 op, .int .u32 xid, .int .i64 secs, .int .i64 flags, .int .u32 ci, .int .u32 yi, .int .u32 si, .int .u32 gi, .int .u64 ch, .slice a n cap] 27)) #[.int .u64 mac, .int .u32 ip, .int .u32 server, .int .u32 mask, .int .u32 router, .int .u32 time] 38 (w.heap.size + 1) (by simp)
  have HB0 : Hid _ := b2
  have AM0 : Hid _ := aM0
  have AL0 : Hid _ := aL0
  have HOS : Hid _ := hos
  clear b2 aM0 aL0 hos
  obtain ⟨bf, hfv, _⟩ := findV_optS os code
  have HF : Hid _ := hfv
  clear hfv
  unfold leaseV dhcpV
  go_enter Try.func5, Try.ntmps5
  go_wp2_with fail
  refine (answer_no op xid secs flags ci yi si gi ch a n cap os mac ip server mask router time h0 h1 _ (HOS.out.below HB0.out) hy).mono ?_
  unfold zeroV dhcpV
  rintro e W1 ⟨rfl, hb1⟩
  have HBW1 : Hid (Below w.heap.size w W1) := HB0.out.trans (hb1.mono HB0.out.size)
  have aMW1 := AtB.below AM0.out hb1
  have aLW1 := AtB.below AL0.out hb1
  obtain ⟨x0, x1, x2, x3, x4, x5, x6, x7, x8, x9⟩ := AtB.ten aMW1
  obtain ⟨y0, y1, y2, y3, y4, y5⟩ := AtB.six aLW1
  have AMW1 : Hid _ := aMW1
  have ALW1 : Hid _ := aLW1
  have hmW1 : w.heap.size < W1.heap.size := aMW1.1
  have hlW1 : w.heap.size + 1 < W1.heap.size := aLW1.1
  clear aMW1 aLW1
  clear hb1
  go_wp2_with fail
  clear x0 x1 x2 x3 x4 x5 x6 x7 x8 x9 y0 y1 y2 y3 y4 y5
  have bA := below1 W1 (.cells #[.int .i64 0, .int .u32 0, .int .i64 0, .int .i64 0, .int .u32 0, .int .u32 0, .int .u32 0, .int .u32 0, .int .u64 0, .slice none 0 0] 27)
  have aA1 := atB_new W1 #[.int .i64 0, .int .u32 0, .int .i64 0, .int .i64 0, .int .u32 0, .int .u32 0, .int .u32 0, .int .u32 0, .int .u64 0, .slice none 0 0] 27 W1.heap.size rfl
  have HBa : Hid (Below w.heap.size w (W1.alloc (.cells #[.int .i64 0, .int .u32 0, .int .i64 0, .int .i64 0, .int .u32 0, .int .u32 0, .int .u32 0, .int .u32 0, .int .u64 0, .slice none 0 0] 27))) := HBW1.out.alloc HBW1.out.size _
  have AMa : Hid _ := AtB.below AMW1.out bA
  have ALa : Hid _ := AtB.below ALW1.out bA
  refine (ranswer_no op xid secs flags ci yi si gi ch a n cap os mac ip server mask router time h0 h1 _ (HOS.out.below HBa.out) hy).mono ?_
  unfold zeroV dhcpV
  rintro e W2 ⟨rfl, hb2⟩
  have HBW2 : Hid (Below w.heap.size w W2) := HBa.out.trans (hb2.mono HBa.out.size)
  have aMW2 := AtB.below AMa.out hb2
  have aLW2 := AtB.below ALa.out hb2
  obtain ⟨x0, x1, x2, x3, x4, x5, x6, x7, x8, x9⟩ := AtB.ten aMW2
  obtain ⟨y0, y1, y2, y3, y4, y5⟩ := AtB.six aLW2
  have AMW2 : Hid _ := aMW2
  have ALW2 : Hid _ := aLW2
  have hmW2 : w.heap.size < W2.heap.size := aMW2.1
  have hlW2 : w.heap.size + 1 < W2.heap.size := aLW2.1
  clear aMW2 aLW2
  have aA2 := AtB.below aA1 hb2
  have AA2 : Hid _ := aA2
  have hlA2 : W1.heap.size < W2.heap.size := aA2.1
  clear hb2 aA1 aA2 bA HBa AMa ALa
  go_wp2_with fail
  clear x0 x1 x2 x3 x4 x5 x6 x7 x8 x9 y0 y1 y2 y3 y4 y5
  have bA := below1 W2 (.cells #[.int .i64 0, .int .u32 0, .int .i64 0, .int .i64 0, .int .u32 0, .int .u32 0, .int .u32 0, .int .u32 0, .int .u64 0, .slice none 0 0] 27)
  have aX2 := atB_new W2 #[.int .i64 0, .int .u32 0, .int .i64 0, .int .i64 0, .int .u32 0, .int .u32 0, .int .u32 0, .int .u32 0, .int .u64 0, .slice none 0 0] 27 W2.heap.size rfl
  have HBb : Hid (Below w.heap.size w (W2.alloc (.cells #[.int .i64 0, .int .u32 0, .int .i64 0, .int .i64 0, .int .u32 0, .int .u32 0, .int .u32 0, .int .u32 0, .int .u64 0, .slice none 0 0] 27))) := HBW2.out.alloc HBW2.out.size _
  have AMb : Hid _ := AtB.below AMW2.out bA
  have ALb : Hid _ := AtB.below ALW2.out bA
  have AAb : Hid _ := AtB.below AA2.out bA
  have AXb : Hid _ := aX2
  clear bA aX2
  refine (find_any op xid secs flags ci yi si gi ch code a n cap os _ (HOS.out.below HBb.out)).mono ?_
  rw [HF.out]
  rintro e W3 ⟨rfl, hw3⟩
  have hb3 := below1 (W2.alloc (.cells #[.int .i64 0, .int .u32 0, .int .i64 0, .int .i64 0, .int .u32 0, .int .u32 0, .int .u32 0, .int .u32 0, .int .u64 0, .slice none 0 0] 27)) (.cells #[.int .i64 op, .int .u32 xid, .int .i64 secs, .int .i64 flags, .int .u32 ci, .int .u32 yi, .int .u32 si, .int .u32 gi, .int .u64 ch, .slice a n cap] 27)
  rw [← hw3] at hb3
  clear hw3
  have HBW3 : Hid (Below w.heap.size w W3) := HBb.out.trans (hb3.mono HBb.out.size)
  have aMW3 := AtB.below AMb.out hb3
  have aLW3 := AtB.below ALb.out hb3
  obtain ⟨x0, x1, x2, x3, x4, x5, x6, x7, x8, x9⟩ := AtB.ten aMW3
  obtain ⟨y0, y1, y2, y3, y4, y5⟩ := AtB.six aLW3
  have AMW3 : Hid _ := aMW3
  have ALW3 : Hid _ := aLW3
  have hmW3 : w.heap.size < W3.heap.size := aMW3.1
  have hlW3 : w.heap.size + 1 < W3.heap.size := aLW3.1
  clear aMW3 aLW3
  have AA3 : Hid _ := AtB.below AAb.out hb3
  have AX3 : Hid _ := AtB.below AXb.out hb3
  clear hb3 AMb ALb AAb AXb HBb
  go_wp2_with fail
  clear x0 x1 x2 x3 x4 x5 x6 x7 x8 x9 y0 y1 y2 y3 y4 y5
  refine (rfind_any op xid secs flags ci yi si gi ch code a n cap os _ (HOS.out.below HBW3.out)).mono ?_
  rw [HF.out]
  rintro e W4 ⟨rfl, hw4⟩
  have hb4 := below1 W3 (.cells #[.int .i64 op, .int .u32 xid, .int .i64 secs, .int .i64 flags, .int .u32 ci, .int .u32 yi, .int .u32 si, .int .u32 gi, .int .u64 ch, .slice a n cap] 27)
  rw [← hw4] at hb4
  clear hw4
  have HBW4 : Hid (Below w.heap.size w W4) := HBW3.out.trans (hb4.mono HBW3.out.size)
  have aMW4 := AtB.below AMW3.out hb4
  have aLW4 := AtB.below ALW3.out hb4
  obtain ⟨x0, x1, x2, x3, x4, x5, x6, x7, x8, x9⟩ := AtB.ten aMW4
  obtain ⟨y0, y1, y2, y3, y4, y5⟩ := AtB.six aLW4
  have AMW4 : Hid _ := aMW4
  have ALW4 : Hid _ := aLW4
  have hmW4 : w.heap.size < W4.heap.size := aMW4.1
  have hlW4 : w.heap.size + 1 < W4.heap.size := aLW4.1
  clear aMW4 aLW4
  have AA4 : Hid _ := AtB.below AA3.out hb4
  have AX4 : Hid _ := AtB.below AX3.out hb4
  clear hb4 AA3 AX3
  go_wp2_with fail
  clear x0 x1 x2 x3 x4 x5 x6 x7 x8 x9 y0 y1 y2 y3 y4 y5
  refine (lives_any _).mono ?_
  rintro e W5 ⟨rfl, hb5⟩
  have HBW5 : Hid (Below w.heap.size w W5) := HBW4.out.trans (hb5.mono HBW4.out.size)
  have aMW5 := AtB.below AMW4.out hb5
  have aLW5 := AtB.below ALW4.out hb5
  obtain ⟨x0, x1, x2, x3, x4, x5, x6, x7, x8, x9⟩ := AtB.ten aMW5
  obtain ⟨y0, y1, y2, y3, y4, y5⟩ := AtB.six aLW5
  have AMW5 : Hid _ := aMW5
  have ALW5 : Hid _ := aLW5
  have hmW5 : w.heap.size < W5.heap.size := aMW5.1
  have hlW5 : w.heap.size + 1 < W5.heap.size := aLW5.1
  clear aMW5 aLW5
  have AA5 : Hid _ := AtB.below AA4.out hb5
  have AX5 : Hid _ := AtB.below AX4.out hb5
  clear hb5 AA4 AX4
  obtain ⟨u0, u1, u2, u3, u4, u5, u6, u7, u8, u9⟩ := AtB.ten AA5.out
  obtain ⟨v0, v1, v2, v3, v4, v5, v6, v7, v8, v9⟩ := AtB.ten AX5.out
  go_wp2_with fail
  clear x0 x1 x2 x3 x4 x5 x6 x7 x8 x9 y0 y1 y2 y3 y4 y5 u0 u1 u2 u3 u4 u5 u6 u7 u8 u9 v0 v1 v2 v3 v4 v5 v6 v7 v8 v9
  refine (same_yes 0 0 0 0 0 0 0 0 0 _ _ 0 0 0 [] _ (OS.empty _) (OS.empty _)).mono ?_
  rintro e W6 ⟨rfl, hb6⟩
  have HBW6 : Hid (Below w.heap.size w W6) := HBW5.out.trans (hb6.mono HBW5.out.size)
  have aMW6 := AtB.below AMW5.out hb6
  have aLW6 := AtB.below ALW5.out hb6
  obtain ⟨x0, x1, x2, x3, x4, x5, x6, x7, x8, x9⟩ := AtB.ten aMW6
  obtain ⟨y0, y1, y2, y3, y4, y5⟩ := AtB.six aLW6
  have AMW6 : Hid _ := aMW6
  have ALW6 : Hid _ := aLW6
  have hmW6 : w.heap.size < W6.heap.size := aMW6.1
  have hlW6 : w.heap.size + 1 < W6.heap.size := aLW6.1
  clear aMW6 aLW6
  have AA6 : Hid _ := AtB.below AA5.out hb6
  clear hb6 AA5 AX5
  obtain ⟨u0, u1, u2, u3, u4, u5, u6, u7, u8, u9⟩ := AtB.ten AA6.out
  go_wp2_with fail
  clear x0 x1 x2 x3 x4 x5 x6 x7 x8 x9 y0 y1 y2 y3 y4 y5 u0 u1 u2 u3 u4 u5 u6 u7 u8 u9
  refine (answer_no 0 0 0 0 0 0 0 0 0 _ 0 0 [] mac ip server mask router time h0 h1 _ (OS.empty _) (ans_two _ 0 _ _ _ _ (by omega))).mono ?_
  unfold zeroV dhcpV
  rintro e W7 ⟨rfl, hb7⟩
  have HB7 : Hid (Below w.heap.size w W7) := HBW6.out.trans (hb7.mono HBW6.out.size)
  clear hb7
  go_wp2
  go_ret
  exact ⟨rfl, HB7.out.alloc HB7.out.size _⟩
end Go.Proofs.Ytjoekmcogmfhjaa
