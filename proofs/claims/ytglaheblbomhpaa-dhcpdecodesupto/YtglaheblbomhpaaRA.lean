/- What Find, four, says of the reference of dhcp answer. Conditions: the options can be read; numbers of 32 bits. -/
import Derived.Test.YtglaheblbomhpaaDI
namespace Go.Proofs.Ytglaheblbomhpaa
open Go.RowKit

set_option maxHeartbeats 1000000 in
theorem rfind_any (op xid secs flags ci yi si gi ch code : Int) (a : Option Addr) (n cap : Nat) (os : List Opt) (w : World) (h : OS w a n os) :
    Calls Try.prog 16 #[dhcpV op xid secs flags ci yi si gi ch (.slice a n cap), .int .i64 code] w fun e w' => e = .returned (findV os code) ∧ w' = w.alloc (.cells #[.int .i64 op, .int .u32 xid, .int .i64 secs, .int .i64 flags, .int .u32 ci, .int .u32 yi, .int .u32 si, .int .u32 gi, .int .u64 ch, .slice a n cap] 27) := by
  unfold dhcpV
  have hl := h.len
  have hr := h.room
  have H : Hid _ := h
  clear h
  go_enter Try.func16, Try.ntmps16
  go_wp2_with fail
  go_loop [6] (fun i => ∃ k : Nat, k ≤ n ∧ i = .int .i64 k ∧ Hid (findV (os.drop k) code = findV os code)) (fun i => n - (intOf i).toNat)
  case atStart => exact ⟨0, by omega, rfl, rfl⟩
  case round =>
    obtain ⟨k, hk, rfl, hF⟩ := hrel
    by_cases hlt : k < n
    · have hkI : (k : Int) < (n : Int) := by omega
      obtain ⟨o, ho⟩ : ∃ o, os[k]? = some o := ⟨os[k]'(by omega), List.getElem?_eq_getElem (by omega)⟩
      obtain ⟨b, off, rfl, c0, c1, c2⟩ : ∃ b off, a = some ⟨b, off, none⟩ ∧ w.cell? ⟨b, off + k * 3, none⟩ = some (.int .i64 o.cls) ∧ w.cell? ⟨b, off + k * 3 + 1, none⟩ = some (.int .i64 o.code) ∧ w.cell? ⟨b, off + k * 3 + 2, none⟩ = some (.string o.data) := by
        rcases H.out.cells with h0 | ⟨b, off, e, hc⟩
        · omega
        · exact ⟨b, off, e, hc k o ho⟩
      have hbl := cell_lt c0
      have hne : ¬ w.heap.size = b := by simp at hbl; omega
      have hD := drop_cons ho
      by_cases hc : o.code = code
      · have HF : Hid (findV os code = .tuple #[.string o.data, .bool true]) := by
          show _ = _
          rw [← hF.out, hD]; simp [findV, findO, hc]
        have e1 : (o.code == code) = true := by simp [hc]
        clear hF hlt ho H hD hc
        generalize o.code = oc at *
        generalize o.data = od at *
        go_wp2
        go_ret2
        exact ⟨(congrArg Ending.returned HF.out).symm, rfl⟩
      · have HF : Hid (findV (os.drop (k + 1)) code = findV os code) := by
          show _ = _
          rw [← hF.out, hD]; simp [findV, findO, hc]
        have e1 : (o.code == code) = false := by simp [hc]
        clear hF hlt ho H hD hc
        generalize o.code = oc at *
        generalize o.data = od at *
        go_wp2
        go_round
        case rel => exact ⟨k + 1, by omega, by go_num, HF⟩
        case measure => simp [intOf]; omega
    · obtain rfl : k = n := by omega
      have HF : Hid (findV os code = .tuple #[.string ⟨#[]⟩, .bool false]) := by
        show _ = _
        rw [← hF.out, List.drop_of_length_le (by omega)]; rfl
      clear hF
      go_wp2
      go_ret2
      exact ⟨(congrArg Ending.returned HF.out).symm, rfl⟩

set_option maxHeartbeats 400000 in
theorem rfour_any (v : Int) (hv : 0 ≤ v ∧ v ≤ 4294967295) (w : World) :
    Calls Try.prog 32 #[.int .u32 v] w fun e w' => e = .returned (.string (fourS v)) ∧ Below w.heap.size w w' := by
  go_enter Try.func32, Try.ntmps32
  go_wp2_with fail
  refine (bytes4_any v (by omega) _).mono ?_
  rintro e w1 ⟨rfl, rfl⟩
  have hbs : BS (w.alloc (.cells ((be v 4).map (Value.int .u8)).toArray 5)) (some ⟨w.heap.size, 0, none⟩) 4 (be v 4) := own_bs (own_made w w.heap.size 4 v (Nat.le_refl _) (by omega)) (be_bd _ _) (by omega)
  have hcv := run_conv_bs (P := Try.prog) 4 hbs 22 9 5 Try.underlying22 Try.underlying5 Try.underlying9
  have hb : Hid _ := below1 w (.cells ((be v 4).map (Value.int .u8)).toArray 5)
  clear hbs
  generalize w.alloc (.cells ((be v 4).map (Value.int .u8)).toArray 5) = w1 at *
  go_wp2
  go_ret
  exact ⟨rfl, hb.out⟩

set_option maxHeartbeats 400000 in
theorem says_any (op xid secs flags ci yi si gi ch code v : Int) (hv : 0 ≤ v ∧ v ≤ 4294967295) (a : Option Addr) (n cap : Nat) (os : List Opt) (w : World) (h : OS w a n os) :
    Calls Try.prog 31 #[dhcpV op xid secs flags ci yi si gi ch (.slice a n cap), .int .i64 code, .int .u32 v] w fun e w' => e = .returned (.bool (otherB os code v)) ∧ Below w.heap.size w w' := by
  obtain ⟨b, hfv, hbe⟩ := findV_optS os code
  have HF : Hid _ := hfv
  clear hfv
  have B := below2 w (.cells #[.int .i64 op, .int .u32 xid, .int .i64 secs, .int .i64 flags, .int .u32 ci, .int .u32 yi, .int .u32 si, .int .u32 gi, .int .u64 ch, .slice a n cap] 27) (.cells #[.int .i64 op, .int .u32 xid, .int .i64 secs, .int .i64 flags, .int .u32 ci, .int .u32 yi, .int .u32 si, .int .u32 gi, .int .u64 ch, .slice a n cap] 27)
  have HB : Hid _ := B
  have H : Hid _ := h.below (below1 w (.cells #[.int .i64 op, .int .u32 xid, .int .i64 secs, .int .i64 flags, .int .u32 ci, .int .u32 yi, .int .u32 si, .int .u32 gi, .int .u64 ch, .slice a n cap] 27))
  clear h B
  unfold otherB
  generalize optS os code = s at *
  unfold dhcpV
  cases b with
  | false =>
    obtain rfl := hbe rfl
    rw [show (decide ((⟨#[]⟩ : ByteArray).size = 4) && !((⟨#[]⟩ : ByteArray).toList == (fourS v).toList)) = false from by simp [ByteArray.size]]
    clear hbe
    go_enter Try.func31, Try.ntmps31
    go_wp2_with fail
    refine (rfind_any op xid secs flags ci yi si gi ch code a n cap os _ H.out).mono ?_
    rintro e w1 ⟨rfl, rfl⟩
    rw [HF.out]
    go_wp2
    go_ret
    exact ⟨rfl, HB.out⟩
  | true =>
    clear hbe
    by_cases hs : s.size = 4
    · have hsI : ((s.size : Int) == 4) = true := by simp; omega
      rw [show (decide (s.size = 4) && !(s.toList == (fourS v).toList)) = !(s.toList == (fourS v).toList) from by simp [hs]]
      clear hs
      go_enter Try.func31, Try.ntmps31
      go_wp2_with fail
      refine (rfind_any op xid secs flags ci yi si gi ch code a n cap os _ H.out).mono ?_
      rintro e w1 ⟨rfl, rfl⟩
      rw [HF.out]
      go_wp2_with fail
      refine (rfour_any v hv _).mono ?_
      rintro e w2 ⟨rfl, hb2⟩
      go_wp2
      go_ret
      exact ⟨rfl, HB.out.trans (hb2.mono (by simp; omega))⟩
    · have hsI : ((s.size : Int) == 4) = false := by simp; omega
      rw [show (decide (s.size = 4) && !(s.toList == (fourS v).toList)) = false from by simp [hs]]
      clear hs
      go_enter Try.func31, Try.ntmps31
      go_wp2_with fail
      refine (rfind_any op xid secs flags ci yi si gi ch code a n cap os _ H.out).mono ?_
      rintro e w1 ⟨rfl, rfl⟩
      rw [HF.out]
      go_wp2
      go_ret
      exact ⟨rfl, HB.out⟩
end Go.Proofs.Ytglaheblbomhpaa
