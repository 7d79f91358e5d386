/- The law DhcpAnswers, but for its frame. Conditions: numbers of their kinds, options that can be read. -/
import Derived.Test.YtglaheblbomhpaaSA
import Derived.Test.YtglaheblbomhpaaRC
namespace Go.Proofs.Ytglaheblbomhpaa
open Go.RowKit

theorem ans_two (os : List Opt) (op ch mac ip server : Int) (h : op ≠ 1) : ansB os op ch mac ip server = false := by
  unfold ansB
  have e : (op == 1) = false := by simp [h]
  rw [e]
  simp
theorem leaseOs_len (k server time mask router : Int) : (leaseOs k server time mask router).length ≤ 5 := by
  unfold leaseOs
  split <;> simp
theorem enc_240 (op xid secs flags ci yi si gi ch : Int) (os : List Opt) : 240 ≤ (encBytes op xid secs flags ci yi si gi ch os).length := by
  unfold encBytes
  rw [List.length_append, List.length_append, fixBytes_len]
  omega

set_option maxHeartbeats 8000000 in
theorem answers_true (w : World) (op xid secs flags ci yi si gi ch : Int) (a : Option Addr) (n cap : Nat) (os : List Opt) (hos : OS w a n os) (hx : 0 ≤ xid ∧ xid ≤ 4294967295) (hgi : 0 ≤ gi ∧ gi ≤ 4294967295) (hch : 0 ≤ ch ∧ ch ≤ 18446744073709551615) (mac ip server mask router time : Int) (h0 : 0 ≤ ip ∧ ip ≤ 4294967295) (h1 : 0 ≤ server ∧ server ≤ 4294967295) (h2 : 0 ≤ mask ∧ mask ≤ 4294967295) (h3 : 0 ≤ router ∧ router ≤ 4294967295) (h4 : 0 ≤ time ∧ time ≤ 4294967295) (code : Int) (hy : ansB os op ch mac ip server = true) :
    Calls Try.prog 5 #[dhcpV op xid secs flags ci yi si gi ch (.slice a n cap), leaseV mac ip server mask router time, .int .i64 code] w fun e w' => e = .returned (.bool true) ∧ Below w.heap.size w w' := by
  have b2 := below2 w (.cells #[.int .i64 op, .int .u32 xid, .int .i64 secs, .int .i64 flags, .int .u32 ci, .int .u32 yi, .int .u32 si, .int .u32 gi, .int .u64 ch, .slice a n cap] 27) (.cells #[.int .u64 mac, .int .u32 ip, .int .u32 server, .int .u32 mask, .int .u32 router, .int .u32 time] 38)
  have aM0 := AtB.below (atB_new w #[.int .i64 op, .int .u32 xid, .int .i64 secs, .int .i64 flags, .int .u32 ci, .int .u32 yi, .int .u32 si, .int .u32 gi, .int .u64 ch, .slice a n cap] 27 w.heap.size rfl) (below1 _ (.cells #[.int .u64 mac, .int .u32 ip, .int .u32 server, .int .u32 mask, .int .u32 router, .int .u32 time] 38))
  have aL0 := atB_new (w.alloc (.cells #[.int .i64 op, .int .u32 xid, .int .i64 secs, .int .i64 flags, .int .u32 ci, .int .u32 yi, .int .u32 si, .int .u32 gi, .int .u64 ch, .slice a n cap] 27)) #[.int .u64 mac, .int .u32 ip, .int .u32 server, .int .u32 mask, .int .u32 router, .int .u32 time] 38 (w.heap.size + 1) (by simp)
  have HB0 : Hid _ := b2
  have AM0 : Hid _ := aM0
  have AL0 : Hid _ := aL0
  have HOS : Hid _ := hos
  clear b2 aM0 aL0 hos
  obtain ⟨bf, hfv, _⟩ := findV_optS os code
  have HF : Hid _ := hfv
  clear hfv
  unfold leaseV dhcpV
  go_enter Try.func5, Try.ntmps5
  go_wp2_with fail
  refine (answer_yes op xid secs flags ci yi si gi ch a n cap os mac ip server mask router time h0 h1 h2 h3 h4 _ (HOS.out.below HB0.out) hy).mono ?_
  unfold dhcpV
  rintro e W1 ⟨g1, n1, cap1, rfl, hg1, ho1, hb1⟩
  have HBW1 : Hid (Below w.heap.size w W1) := HB0.out.trans (hb1.mono HB0.out.size)
  have aMW1 := AtB.below AM0.out hb1
  have aLW1 := AtB.below AL0.out hb1
  obtain ⟨x0, x1, x2, x3, x4, x5, x6, x7, x8, x9⟩ := AtB.ten aMW1
  obtain ⟨y0, y1, y2, y3, y4, y5⟩ := AtB.six aLW1
  have AMW1 : Hid _ := aMW1
  have ALW1 : Hid _ := aLW1
  have hmW1 : w.heap.size < W1.heap.size := aMW1.1
  have hlW1 : w.heap.size + 1 < W1.heap.size := aLW1.1
  clear aMW1 aLW1
  have HO1 : Hid _ := ho1
  clear hb1 ho1 hg1
  go_wp2_with fail
  clear x0 x1 x2 x3 x4 x5 x6 x7 x8 x9 y0 y1 y2 y3 y4 y5
  have bA := below1 W1 (.cells #[.int .i64 2, .int .u32 xid, .int .i64 0, .int .i64 flags, .int .u32 0, .int .u32 ip, .int .u32 server, .int .u32 gi, .int .u64 ch, .slice (some ⟨g1, 0, none⟩) n1 cap1] 27)
  have aA1 := atB_new W1 #[.int .i64 2, .int .u32 xid, .int .i64 0, .int .i64 flags, .int .u32 0, .int .u32 ip, .int .u32 server, .int .u32 gi, .int .u64 ch, .slice (some ⟨g1, 0, none⟩) n1 cap1] 27 W1.heap.size rfl
  have HBa : Hid (Below w.heap.size w (W1.alloc (.cells #[.int .i64 2, .int .u32 xid, .int .i64 0, .int .i64 flags, .int .u32 0, .int .u32 ip, .int .u32 server, .int .u32 gi, .int .u64 ch, .slice (some ⟨g1, 0, none⟩) n1 cap1] 27))) := HBW1.out.alloc HBW1.out.size _
  have AMa : Hid _ := AtB.below AMW1.out bA
  have ALa : Hid _ := AtB.below ALW1.out bA
  have HO1a : Hid _ := HO1.out.below bA
  refine (ranswer_yes op xid secs flags ci yi si gi ch a n cap os mac ip server mask router time h0 h1 h2 h3 h4 _ (HOS.out.below HBa.out) hy).mono ?_
  unfold dhcpV
  rintro e W2 ⟨g2, n2, cap2, rfl, hg2, ho2, hb2⟩
  have HBW2 : Hid (Below w.heap.size w W2) := HBa.out.trans (hb2.mono HBa.out.size)
  have aMW2 := AtB.below AMa.out hb2
  have aLW2 := AtB.below ALa.out hb2
  obtain ⟨x0, x1, x2, x3, x4, x5, x6, x7, x8, x9⟩ := AtB.ten aMW2
  obtain ⟨y0, y1, y2, y3, y4, y5⟩ := AtB.six aLW2
  have AMW2 : Hid _ := aMW2
  have ALW2 : Hid _ := aLW2
  have hmW2 : w.heap.size < W2.heap.size := aMW2.1
  have hlW2 : w.heap.size + 1 < W2.heap.size := aLW2.1
  clear aMW2 aLW2
  have aA2 := AtB.below aA1 hb2
  have AA2 : Hid _ := aA2
  have hlA2 : W1.heap.size < W2.heap.size := aA2.1
  have HO12 : Hid _ := HO1a.out.below hb2
  have HO2 : Hid _ := ho2
  clear hb2 ho2 hg2 aA1 aA2 bA HBa AMa ALa HO1a HO1
  go_wp2_with fail
  clear x0 x1 x2 x3 x4 x5 x6 x7 x8 x9 y0 y1 y2 y3 y4 y5
  have bA := below1 W2 (.cells #[.int .i64 2, .int .u32 xid, .int .i64 0, .int .i64 flags, .int .u32 0, .int .u32 ip, .int .u32 server, .int .u32 gi, .int .u64 ch, .slice (some ⟨g2, 0, none⟩) n2 cap2] 27)
  have aX2 := atB_new W2 #[.int .i64 2, .int .u32 xid, .int .i64 0, .int .i64 flags, .int .u32 0, .int .u32 ip, .int .u32 server, .int .u32 gi, .int .u64 ch, .slice (some ⟨g2, 0, none⟩) n2 cap2] 27 W2.heap.size rfl
  have HBb : Hid (Below w.heap.size w (W2.alloc (.cells #[.int .i64 2, .int .u32 xid, .int .i64 0, .int .i64 flags, .int .u32 0, .int .u32 ip, .int .u32 server, .int .u32 gi, .int .u64 ch, .slice (some ⟨g2, 0, none⟩) n2 cap2] 27))) := HBW2.out.alloc HBW2.out.size _
  have AMb : Hid _ := AtB.below AMW2.out bA
  have ALb : Hid _ := AtB.below ALW2.out bA
  have AAb : Hid _ := AtB.below AA2.out bA
  have AXb : Hid _ := aX2
  have HO1b : Hid _ := HO12.out.below bA
  have HO2b : Hid _ := HO2.out.below bA
  clear bA aX2
  refine (find_any op xid secs flags ci yi si gi ch code a n cap os _ (HOS.out.below HBb.out)).mono ?_
  rw [HF.out]
  rintro e W3 ⟨rfl, hw3⟩
  have hb3 := below1 (W2.alloc (.cells #[.int .i64 2, .int .u32 xid, .int .i64 0, .int .i64 flags, .int .u32 0, .int .u32 ip, .int .u32 server, .int .u32 gi, .int .u64 ch, .slice (some ⟨g2, 0, none⟩) n2 cap2] 27)) (.cells #[.int .i64 op, .int .u32 xid, .int .i64 secs, .int .i64 flags, .int .u32 ci, .int .u32 yi, .int .u32 si, .int .u32 gi, .int .u64 ch, .slice a n cap] 27)
  rw [← hw3] at hb3
  clear hw3
  have HBW3 : Hid (Below w.heap.size w W3) := HBb.out.trans (hb3.mono HBb.out.size)
  have aMW3 := AtB.below AMb.out hb3
  have aLW3 := AtB.below ALb.out hb3
  obtain ⟨x0, x1, x2, x3, x4, x5, x6, x7, x8, x9⟩ := AtB.ten aMW3
  obtain ⟨y0, y1, y2, y3, y4, y5⟩ := AtB.six aLW3
  have AMW3 : Hid _ := aMW3
  have ALW3 : Hid _ := aLW3
  have hmW3 : w.heap.size < W3.heap.size := aMW3.1
  have hlW3 : w.heap.size + 1 < W3.heap.size := aLW3.1
  clear aMW3 aLW3
  have AA3 : Hid _ := AtB.below AAb.out hb3
  have AX3 : Hid _ := AtB.below AXb.out hb3
  have HO13 : Hid _ := HO1b.out.below hb3
  have HO23 : Hid _ := HO2b.out.below hb3
  clear hb3 AMb ALb AAb AXb HO1b HO2b HBb
  go_wp2_with fail
  clear x0 x1 x2 x3 x4 x5 x6 x7 x8 x9 y0 y1 y2 y3 y4 y5
  refine (rfind_any op xid secs flags ci yi si gi ch code a n cap os _ (HOS.out.below HBW3.out)).mono ?_
  rw [HF.out]
  rintro e W4 ⟨rfl, hw4⟩
  have hb4 := below1 W3 (.cells #[.int .i64 op, .int .u32 xid, .int .i64 secs, .int .i64 flags, .int .u32 ci, .int .u32 yi, .int .u32 si, .int .u32 gi, .int .u64 ch, .slice a n cap] 27)
  rw [← hw4] at hb4
  clear hw4
  have HBW4 : Hid (Below w.heap.size w W4) := HBW3.out.trans (hb4.mono HBW3.out.size)
  have aMW4 := AtB.below AMW3.out hb4
  have aLW4 := AtB.below ALW3.out hb4
  obtain ⟨x0, x1, x2, x3, x4, x5, x6, x7, x8, x9⟩ := AtB.ten aMW4
  obtain ⟨y0, y1, y2, y3, y4, y5⟩ := AtB.six aLW4
  have AMW4 : Hid _ := aMW4
  have ALW4 : Hid _ := aLW4
  have hmW4 : w.heap.size < W4.heap.size := aMW4.1
  have hlW4 : w.heap.size + 1 < W4.heap.size := aLW4.1
  clear aMW4 aLW4
  have AA4 : Hid _ := AtB.below AA3.out hb4
  have AX4 : Hid _ := AtB.below AX3.out hb4
  have HO14 : Hid _ := HO13.out.below hb4
  have HO24 : Hid _ := HO23.out.below hb4
  clear hb4 AA3 AX3 HO13 HO23
  go_wp2_with fail
  clear x0 x1 x2 x3 x4 x5 x6 x7 x8 x9 y0 y1 y2 y3 y4 y5
  refine (lives_any _).mono ?_
  rintro e W5 ⟨rfl, hb5⟩
  have HBW5 : Hid (Below w.heap.size w W5) := HBW4.out.trans (hb5.mono HBW4.out.size)
  have aMW5 := AtB.below AMW4.out hb5
  have aLW5 := AtB.below ALW4.out hb5
  obtain ⟨x0, x1, x2, x3, x4, x5, x6, x7, x8, x9⟩ := AtB.ten aMW5
  obtain ⟨y0, y1, y2, y3, y4, y5⟩ := AtB.six aLW5
  have AMW5 : Hid _ := aMW5
  have ALW5 : Hid _ := aLW5
  have hmW5 : w.heap.size < W5.heap.size := aMW5.1
  have hlW5 : w.heap.size + 1 < W5.heap.size := aLW5.1
  clear aMW5 aLW5
  have AA5 : Hid _ := AtB.below AA4.out hb5
  have AX5 : Hid _ := AtB.below AX4.out hb5
  have HO15 : Hid _ := HO14.out.below hb5
  have HO25 : Hid _ := HO24.out.below hb5
  clear hb5 AA4 AX4 HO14 HO24
  obtain ⟨u0, u1, u2, u3, u4, u5, u6, u7, u8, u9⟩ := AtB.ten AA5.out
  obtain ⟨v0, v1, v2, v3, v4, v5, v6, v7, v8, v9⟩ := AtB.ten AX5.out
  go_wp2_with fail
  clear x0 x1 x2 x3 x4 x5 x6 x7 x8 x9 y0 y1 y2 y3 y4 y5 u0 u1 u2 u3 u4 u5 u6 u7 u8 u9 v0 v1 v2 v3 v4 v5 v6 v7 v8 v9
  have hnn : n2 = n1 := HO25.out.len.symm.trans HO15.out.len
  subst hnn
  refine (same_yes 2 xid 0 flags 0 ip server gi ch _ _ n2 cap1 cap2 _ _ HO15.out HO25.out).mono ?_
  rintro e W6 ⟨rfl, hb6⟩
  have HBW6 : Hid (Below w.heap.size w W6) := HBW5.out.trans (hb6.mono HBW5.out.size)
  have aMW6 := AtB.below AMW5.out hb6
  have aLW6 := AtB.below ALW5.out hb6
  obtain ⟨x0, x1, x2, x3, x4, x5, x6, x7, x8, x9⟩ := AtB.ten aMW6
  obtain ⟨y0, y1, y2, y3, y4, y5⟩ := AtB.six aLW6
  have AMW6 : Hid _ := aMW6
  have ALW6 : Hid _ := aLW6
  have hmW6 : w.heap.size < W6.heap.size := aMW6.1
  have hlW6 : w.heap.size + 1 < W6.heap.size := aLW6.1
  clear aMW6 aLW6
  have AA6 : Hid _ := AtB.below AA5.out hb6
  have HO16 : Hid _ := HO15.out.below hb6
  clear hb6 AA5 AX5 HO15 HO25
  obtain ⟨u0, u1, u2, u3, u4, u5, u6, u7, u8, u9⟩ := AtB.ten AA6.out
  go_wp2_with fail
  clear x0 x1 x2 x3 x4 x5 x6 x7 x8 x9 y0 y1 y2 y3 y4 y5 u0 u1 u2 u3 u4 u5 u6 u7 u8 u9
  refine (answer_no 2 xid 0 flags 0 ip server gi ch _ n2 cap1 _ mac ip server mask router time h0 h1 _ HO16.out (ans_two _ 2 _ _ _ _ (by omega))).mono ?_
  unfold zeroV dhcpV
  rintro e W7 ⟨rfl, hb7⟩
  have HBW7 : Hid (Below w.heap.size w W7) := HBW6.out.trans (hb7.mono HBW6.out.size)
  have aMW7 := AtB.below AMW6.out hb7
  have aLW7 := AtB.below ALW6.out hb7
  obtain ⟨x0, x1, x2, x3, x4, x5, x6, x7, x8, x9⟩ := AtB.ten aMW7
  obtain ⟨y0, y1, y2, y3, y4, y5⟩ := AtB.six aLW7
  have AMW7 : Hid _ := aMW7
  have ALW7 : Hid _ := aLW7
  have hmW7 : w.heap.size < W7.heap.size := aMW7.1
  have hlW7 : w.heap.size + 1 < W7.heap.size := aLW7.1
  clear aMW7 aLW7
  have AA7 : Hid _ := AtB.below AA6.out hb7
  have HO17 : Hid _ := HO16.out.below hb7
  have hlA7 : W1.heap.size < W7.heap.size := AA7.out.1
  clear hb7 AA6 HO16
  obtain ⟨u0, u1, u2, u3, u4, u5, u6, u7, u8, u9⟩ := AtB.ten AA7.out
  go_wp2_with fail
  clear x0 x1 x2 x3 x4 x5 x6 x7 x8 x9 y0 y1 y2 y3 y4 y5 u0 u1 u2 u3 u4 u5 u6 u7 u8 u9
  have bZ := below1 W7 (.cells #[.int .i64 0, .int .u32 0, .int .i64 0, .int .i64 0, .int .u32 0, .int .u32 0, .int .u32 0, .int .u32 0, .int .u64 0, .slice none 0 0] 27)
  have HBz : Hid (Below w.heap.size w (W7.alloc (.cells #[.int .i64 0, .int .u32 0, .int .i64 0, .int .i64 0, .int .u32 0, .int .u32 0, .int .u32 0, .int .u32 0, .int .u64 0, .slice none 0 0] 27))) := HBW7.out.alloc HBW7.out.size _
  cases hE : (fixB 2 0 flags ch && optsB (leaseOs (kindS (optS os 53)) server time mask router)) with
  | false =>
    refine (encode_no 2 xid 0 flags 0 ip server gi ch _ n2 cap1 _ _ (HO17.out.below bZ) hE).mono ?_
    rintro e W8 ⟨rfl, hb8⟩
    have HB8 : Hid (Below w.heap.size w W8) := HBz.out.trans (hb8.mono HBz.out.size)
    clear hb8 bZ
    go_wp2
    go_ret
    exact ⟨rfl, HB8.out⟩
  | true =>
    refine (encode_yes 2 xid 0 flags 0 ip server gi ch _ n2 cap1 _ _ (HO17.out.below bZ) hx (by omega) h0 h1 hgi hch hE).mono ?_
    rintro e W8 ⟨a8, N, cap8, rfl, hown, hb8⟩
    have hN : (240 : Int) ≤ N := by
      have e1 := own_len hown
      have e2 := enc_240 2 xid 0 flags 0 ip server gi ch (leaseOs (kindS (optS os 53)) server time mask router)
      omega
    have HB8 : Hid (Below w.heap.size w W8) := HBz.out.trans (hb8.mono HBz.out.size)
    clear hb8 bZ hown
    go_wp2
    go_ret
    exact ⟨rfl, HB8.out⟩
end Go.Proofs.Ytglaheblbomhpaa
