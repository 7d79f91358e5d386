/- The law of EthTexts, walked. Conditions: a text of at most 2^47 bytes; the library's table lies as laid. -/
import Derived.Test.YtkianiglibkbhaaDoorEI
import Derived.Test.YtkianiglibkbhaaDoorEC
import Derived.Test.YtkianiglibkbhaaDoorLives
namespace Go.Proofs.YtkianiglibkbhaaDoor
open Go.RowKit
set_option maxRecDepth 20000 in
set_option maxHeartbeats 4000000 in
theorem law_walk (s : ByteArray) (mac ip : Int) (hs : s.size ≤ maxLen) (hs2 : s.size ≤ 140737488355328) (hm : 0 ≤ mac ∧ mac ≤ 18446744073709551615) (hip : 0 ≤ ip ∧ ip ≤ 4294967295) (w : World) (ht : Tab10 w) :
    Calls Tryd.prog 3 #[.string s, .int .u64 mac, .int .u32 ip] w fun e w' => e = .returned (.bool true) ∧ Below w.heap.size w w' := by
  have H1 : Hid (∀ W, Calls Tryd.prog 4 #[.string s] W fun e w' => e = .returned (.tuple #[.int .u64 ((macSpec s).getD 0), .bool (macSpec s).isSome]) ∧ w' = W) := fun W => mac_any s W
  have H2 : Hid (∀ W, Calls Tryd.prog 5 #[.string s] W fun e w' => e = .returned (.tuple #[.int .u64 ((macSpec s).getD 0), .bool (macSpec s).isSome]) ∧ w' = W) := fun W => rmac_any s W
  have H3 : Hid (∀ W, Calls Tryd.prog 6 #[.string s] W fun e w' => e = .returned (.tuple #[.int .u32 ((addrSpec s).getD 0), .bool (addrSpec s).isSome]) ∧ w' = W) := fun W => addr_any s hs W
  have H4 : Hid (∀ W, Calls Tryd.prog 7 #[.string s] W fun e w' => e = .returned (.tuple #[.int .u32 ((addrSpec s).getD 0), .bool (addrSpec s).isSome]) ∧ w' = W) := fun W => raddr_any s hs2 W
  generalize (macSpec s).getD 0 = m1 at *
  generalize (macSpec s).isSome = m2 at *
  generalize (addrSpec s).getD 0 = a1 at *
  generalize (addrSpec s).isSome = a2 at *
  have H5 : Hid (∀ W, Calls Tryd.prog 4 #[.string (strOfNums (macText mac))] W fun e w' => e = .returned (.tuple #[.int .u64 (mac % 281474976710656), .bool true]) ∧ w' = W) := fun W => by
    have := mac_any (strOfNums (macText mac)) W
    rw [mac_back mac] at this
    exact this
  have hlen : (strOfNums (addrText ip)).size ≤ maxLen := by
    rw [str_size]; unfold addrText maxLen
    have := decs_len (ip / 16777216 % 256)
    have := decs_len (ip / 65536 % 256)
    have := decs_len (ip / 256 % 256)
    have := decs_len (ip / 1 % 256)
    simp only [List.length_append, List.length_cons, List.length_nil]
    omega
  have H6 : Hid (∀ W, Calls Tryd.prog 6 #[.string (strOfNums (addrText ip))] W fun e w' => e = .returned (.tuple #[.int .u32 ip, .bool true]) ∧ w' = W) := fun W => by
    have := addr_any (strOfNums (addrText ip)) hlen W
    rw [addr_back ip hip] at this
    exact this
  have H7 : Hid (∀ W, Calls Tryd.prog 11 #[.int .u64 mac] W fun e w' => e = .returned (.string (strOfNums (macText mac))) ∧ Below W.heap.size W w') := fun W => macText_any mac hm W
  have H8 : Hid (∀ W, Calls Tryd.prog 13 #[.int .u64 mac] W fun e w' => e = .returned (.string (strOfNums (macText mac))) ∧ Below W.heap.size W w') := fun W => rmacText_any mac hm W
  have H9 : Hid (∀ W, Tab10 W → Calls Tryd.prog 12 #[.int .u32 ip] W fun e w' => e = .returned (.string (strOfNums (addrText ip))) ∧ Below W.heap.size W w') := fun W hW => addrText_any ip hip W hW
  have H10 : Hid (∀ W, Calls Tryd.prog 14 #[.int .u32 ip] W fun e w' => e = .returned (.string (strOfNums (addrText ip))) ∧ Below W.heap.size W w') := fun W => raddrText_any ip hip W
  generalize strOfNums (macText mac) = mt at *
  generalize strOfNums (addrText ip) = at1 at *
  have hmod : mac.tmod 281474976710656 = mac % 281474976710656 := Int.tmod_eq_emod_of_nonneg hm.1
  have T0 : Hid (Tab10 w) := ht
  clear ht
  go_enter Tryd.func3, Tryd.ntmps3
  go_wp2_with fail
  refine (H1.out _).mono ?_
  rintro e _ ⟨rfl, rfl⟩
  go_wp2_with fail
  refine (H2.out _).mono ?_
  rintro e _ ⟨rfl, rfl⟩
  go_wp2_with fail
  refine (H3.out _).mono ?_
  rintro e _ ⟨rfl, rfl⟩
  go_wp2_with fail
  refine (H4.out _).mono ?_
  rintro e _ ⟨rfl, rfl⟩
  go_wp2_with fail
  refine (lives_any _).mono ?_
  rintro e w1 ⟨rfl, b1⟩
  have B1 : Hid (Below _ _ w1) := b1
  have T1 : Hid (Tab10 w1) := Tab10.below (w := _) T0.out b1
  clear b1
  go_wp2_with fail
  refine (multi_any mac hm _).mono ?_
  rintro e _ ⟨rfl, rfl⟩
  go_wp2_with fail
  refine (rmulti_any mac hm _).mono ?_
  rintro e _ ⟨rfl, rfl⟩
  go_wp2_with fail
  refine (H7.out _).mono ?_
  rintro e w2 ⟨rfl, b2⟩
  have B2 : Hid (Below _ _ w2) := B1.out.trans (b2.mono B1.out.size)
  have T2 : Hid (Tab10 w2) := Tab10.below (w := _) T1.out b2
  clear b2
  go_wp2_with fail
  refine (H5.out _).mono ?_
  rintro e _ ⟨rfl, rfl⟩
  go_wp2_with fail
  refine (H9.out _ T2.out).mono ?_
  rintro e w3 ⟨rfl, b3⟩
  have B3 : Hid (Below _ _ w3) := B2.out.trans (b3.mono B2.out.size)
  have T3 : Hid (Tab10 w3) := Tab10.below (w := _) T2.out b3
  clear b3
  go_wp2_with fail
  refine (H6.out _).mono ?_
  rintro e _ ⟨rfl, rfl⟩
  go_wp2_with fail
  refine (H7.out _).mono ?_
  rintro e w4 ⟨rfl, b4⟩
  have B4 : Hid (Below _ _ w4) := B3.out.trans (b4.mono B3.out.size)
  have T4 : Hid (Tab10 w4) := Tab10.below (w := _) T3.out b4
  clear b4
  go_wp2_with fail
  refine (H8.out _).mono ?_
  rintro e w5 ⟨rfl, b5⟩
  have B5 : Hid (Below _ _ w5) := B4.out.trans (b5.mono B4.out.size)
  have T5 : Hid (Tab10 w5) := Tab10.below (w := _) T4.out b5
  clear b5
  go_wp2_with fail
  refine (H9.out _ T5.out).mono ?_
  rintro e w6 ⟨rfl, b6⟩
  have B6 : Hid (Below _ _ w6) := B5.out.trans (b6.mono B5.out.size)
  have T6 : Hid (Tab10 w6) := Tab10.below (w := _) T5.out b6
  clear b6
  go_wp2_with fail
  refine (H10.out _).mono ?_
  rintro e w7 ⟨rfl, b7⟩
  have B7 : Hid (Below _ _ w7) := B6.out.trans (b7.mono B6.out.size)
  have T7 : Hid (Tab10 w7) := Tab10.below (w := _) T6.out b7
  clear b7
  go_wp2
  go_ret
  exact ⟨rfl, B7.out⟩
end Go.Proofs.YtkianiglibkbhaaDoor
