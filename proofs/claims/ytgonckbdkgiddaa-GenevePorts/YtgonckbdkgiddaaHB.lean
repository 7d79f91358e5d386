/- The number that an option says, in the document; the option that says two ports. Conditions: the options can be read. -/
import Derived.Test.YtgonckbdkgiddaaHA
import Derived.Test.YtgonckbdkgiddaaXM
namespace Go.Proofs.Ytgonckbdkgiddaa
open Go.RowKit
theorem i64_and32767 (n : Int) : bits .and .i64 n 32767 = n % 32768 := by
  have h : (BitVec.ofInt 64 32767).toNat = 2 ^ 15 - 1 := by decide
  have key : (BitVec.ofInt 64 n &&& BitVec.ofInt 64 32767).toNat = (n % ((2 ^ 64 : Nat) : Int)).toNat % 2 ^ 15 := by
    rw [BitVec.toNat_and, BitVec.toNat_ofInt, h, Nat.and_two_pow_sub_one_eq_mod]
  show IntKind.i64.wrap ((BitVec.ofInt 64 n &&& BitVec.ofInt 64 32767).toNat : Nat) = n % 32768
  rw [key, IntKind.wrap_i64]
  omega
set_option maxHeartbeats 2000000 in
theorem rkey_any (c d : Int) (a : Option Addr) (n cap : Nat) (os : List Opt) (w : World) (h : OS w a n os) :
    Calls Try.prog 16 #[.slice a n cap, .int .i64 c, .int .i64 d] w fun e w' => e = .returned (keyV os c d) ∧ Below w.heap.size w w' := by
  have hl := h.len
  have hr := h.room
  have H : Hid _ := h
  clear h
  go_enter Try.func16, Try.ntmps16
  go_wp2_with fail
  go_loopw [8] (fun i wr => ∃ k : Nat, k ≤ n ∧ i = .int .i64 k ∧ wr = w ∧ Hid (keyV (os.drop k) c d = keyV os c d)) (fun i _ => n - (intOf i).toNat)
  case atStart => exact ⟨0, by omega, rfl, rfl, rfl⟩
  case round =>
    obtain ⟨k, hk, rfl, rfl, hF⟩ := hrel
    by_cases hlt : k = n
    · have HF : Hid (keyV os c d = .tuple #[.int .u32 0, .bool false]) := by
        show _ = _
        rw [← hF.out, List.drop_of_length_le (by omega)]; rfl
      have e0 : ¬ (k : Int) < (n : Int) := by omega
      clear hF hlt
      go_wp2
      go_ret2
      exact ⟨(congrArg Ending.returned HF.out).symm, Below.refl _ _⟩
    · have hkI : (k : Int) < (n : Int) := by omega
      obtain ⟨o, b, off, ho, rfl, c0, c1, c2, hbl, hfit, hlen⟩ := os_cell H.out (show k < n by omega)
      have hD := drop_cons ho
      have hs := strOfNums_size o.data
      by_cases hcl : o.cls = c
      · have e1 : (o.cls == c) = true := by simp [hcl]
        by_cases hco : o.code = d
        · have e2 : (o.code == d) = true := by simp [hco]
          by_cases h4 : o.data.length = 4
          · have HF : Hid (keyV os c d = .tuple #[.int .u32 (num o.data), .bool true]) := by
              show _ = _
              rw [← hF.out, hD]; simp [keyV, keyO, hcl, hco, h4]
            obtain ⟨cp, W1, hrun, hB, hbel, _, _⟩ := conv_text wr o.data hfit (by omega)
            have hnb := num_lt4 hfit h4
            generalize o.cls = oc at *
            generalize o.code = od at *
            generalize o.data = ds at *
            rw [h4] at hs hrun hB
            have HB : Hid _ := hB
            have HL : Hid _ := hbel
            have e3 : (((strOfNums ds).size : Int) == 4) = true := by rw [hs]; rfl
            clear hF hlt ho H hD hcl hco hB hbel hfit hlen h4
            go_wp2_with fail
            refine (rnum_any cp HB.out (by omega)).mono ?_
            rintro e W2 ⟨rfl, rfl⟩
            have hw : IntKind.u32.wrap (num ds) = num ds := by simp [IntKind.wrap, IntKind.bits, IntKind.signed]; omega
            go_wp2
            go_ret2
            exact ⟨(congrArg Ending.returned HF.out).symm, HL.out⟩
          · have HF : Hid (keyV (os.drop (k + 1)) c d = keyV os c d) := by
              show _ = _
              rw [← hF.out, hD]; simp [keyV, keyO, h4]
            have e3 : (((strOfNums o.data).size : Int) == 4) = false := by rw [hs]; simp; omega
            clear hF ho H hD hcl hco h4 hs hfit hlen
            generalize o.cls = oc at *
            generalize o.code = od at *
            generalize o.data = ds at *
            go_wp2
            go_roundw
            case rel => exact ⟨k + 1, by omega, by go_num, by first | rfl | trivial, HF⟩
            case measure => simp [intOf]; omega
        · have HF : Hid (keyV (os.drop (k + 1)) c d = keyV os c d) := by
            show _ = _
            rw [← hF.out, hD]; simp [keyV, keyO, hco]
          have e2 : (o.code == d) = false := by simp [hco]
          clear hF ho H hD hcl hco hs hfit hlen
          generalize o.cls = oc at *
          generalize o.code = od at *
          generalize o.data = ds at *
          go_wp2
          go_roundw
          case rel => exact ⟨k + 1, by omega, by go_num, by first | rfl | trivial, HF⟩
          case measure => simp [intOf]; omega
      · have HF : Hid (keyV (os.drop (k + 1)) c d = keyV os c d) := by
          show _ = _
          rw [← hF.out, hD]; simp [keyV, keyO, hcl]
        have e1 : (o.cls == c) = false := by simp [hcl]
        clear hF ho H hD hcl hs hfit hlen
        generalize o.cls = oc at *
        generalize o.code = od at *
        generalize o.data = ds at *
        go_wp2
        go_roundw
        case rel => exact ⟨k + 1, by omega, by go_num, by first | rfl | trivial, HF⟩
        case measure => simp [intOf]; omega
/-- What Ports says of two numbers. -/
def prt (i o : Int) : Int := i % 32768 * 65536 + o % 65536
theorem prt_bd (i o : Int) : 0 ≤ prt i o ∧ prt i o ≤ 2147483647 := by unfold prt; omega
theorem both_eq (i o : Int) : bits BinOp.or IntKind.u64 (IntKind.u64.wrap (IntKind.u64.wrap (bits BinOp.and IntKind.i64 i 32767) * 65536)) (IntKind.u64.wrap (bits BinOp.and IntKind.i64 o 65535)) = prt i o := by
  rw [i64_and32767, i64_and65535]
  have w1 : IntKind.u64.wrap (i % 32768) = i % 32768 := by simp [IntKind.wrap, IntKind.bits, IntKind.signed]; omega
  have w2 : IntKind.u64.wrap (i % 32768 * 65536) = i % 32768 * 65536 := by simp [IntKind.wrap, IntKind.bits, IntKind.signed]; omega
  have w3 : IntKind.u64.wrap (o % 65536) = o % 65536 := by simp [IntKind.wrap, IntKind.bits, IntKind.signed]; omega
  rw [w1, w2, w3, u64_or _ _ (by omega) (by omega) (by omega) (by omega), nat_join 16 (i % 32768 * 65536).toNat (o % 65536).toNat (by omega) (by omega)]
  unfold prt
  omega
theorem run_buildO (x y : Int) (s : ByteArray) (w : World) : (Instr.buildSlice 23 1 #[(0, .agg #[.int .i64 x, .int .i64 y, .string s])]).run Try.prog w = .ok (.slice (some ⟨w.heap.size, 0, none⟩) 1 1) (w.alloc (.cells #[.int .i64 x, .int .i64 y, .string s] 38)) := by kernel_rfl
theorem os_one {w : World} {x y : Int} {ds : List Int} (hf : Fit ds) : OS (w.alloc (.cells #[.int .i64 x, .int .i64 y, .string (strOfNums ds)] 38)) (some ⟨w.heap.size, 0, none⟩) 1 [⟨x, y, ds⟩] := by
  refine ⟨rfl, by omega, fun o ho => ?_, .inr ⟨w.heap.size, 0, rfl, fun i o ho => ?_⟩⟩
  · obtain rfl : o = ⟨x, y, ds⟩ := by simpa using ho
    exact ⟨hf, trivial⟩
  · have hn := heap_alloc_new w (.cells #[.int .i64 x, .int .i64 y, .string (strOfNums ds)] 38)
    have hi : i = 0 := by
      have := (List.getElem?_eq_some_iff.1 ho).1
      simp at this
      exact this
    subst hi
    have : o = ⟨x, y, ds⟩ := by simpa using ho.symm
    subst this
    exact ⟨cell_of_row _ _ 0 _ _ _ hn, cell_of_row _ _ 1 _ _ _ hn, cell_of_row _ _ 2 _ _ _ hn⟩
set_option maxHeartbeats 2000000 in
theorem ports_any (i o : Int) (w : World) :
    Calls Try.prog 13 #[.int .i64 i, .int .i64 o] w fun e w' => ∃ g, e = .returned (.slice (some ⟨g, 0, none⟩) 1 1) ∧ OS w' (some ⟨g, 0, none⟩) 1 [⟨258, 128, be (prt i o) 4⟩] ∧ Below w.heap.size w w' := by
  have hp := prt_bd i o
  have hE : Hid _ := both_eq i o
  have hE' := both_eq i o
  go_enter Try.func13, Try.ntmps13
  clear hE'
  go_wp2_with fail
  rw [hE.out]
  refine (appendNumber_any w.heap.size w none 0 0 [] ⟨rfl, .inl ⟨rfl, rfl⟩⟩ (Nat.le_refl _) (by omega) (prt i o) (by omega) 4 (by omega)).mono ?_
  rintro e W1 ⟨a', cap', rfl, hr⟩
  have hB : BS W1 a' 4 (be (prt i o) 4) := own_bs (by simpa using hr.own) (be_bd _ _) (by omega)
  have hb1 : Below w.heap.size w W1 := (Below.refl _ _).grown hr.grown (Nat.le_refl _) (by rintro k ⟨⟩)
  have cv := run_conv_bs (P := Try.prog) cap' hB 26 9 5 Try.underlying26 Try.underlying5 Try.underlying9
  have HB1 : Hid _ := hb1
  have hrun := run_buildO 258 128 (strOfNums (be (prt i o) 4))
  clear hr hB hb1 hE
  generalize hq : be (prt i o) 4 = ds at *
  have HQ : Hid _ := hq
  clear hq hp
  go_wp2
  go_ret
  refine ⟨_, rfl, ?_, HB1.out.alloc HB1.out.size _⟩
  have hf : Fit ds := by rw [← HQ.out]; exact be_bd _ _
  rw [HQ.out]
  exact os_one hf
set_option maxHeartbeats 2000000 in
theorem rports_any (i o : Int) (w : World) :
    Calls Try.prog 14 #[.int .i64 i, .int .i64 o] w fun e w' => ∃ g, e = .returned (.slice (some ⟨g, 0, none⟩) 1 1) ∧ OS w' (some ⟨g, 0, none⟩) 1 [⟨258, 128, be (prt i o) 4⟩] ∧ Below w.heap.size w w' := by
  have hp := prt_bd i o
  go_enter Try.func14, Try.ntmps14
  go_wp2_with fail
  have e1 : IntKind.u64.wrap (IntKind.u64.wrap ((IntKind.u64.wrap (IntKind.u16.wrap i)).tmod 32768 * 65536) + IntKind.u64.wrap (IntKind.u16.wrap o)) = prt i o := by
    unfold prt
    simp only [IntKind.wrap, IntKind.bits, IntKind.signed]
    simp
    rw [Int.tmod_eq_emod_of_nonneg (by omega)]
    omega
  rw [e1]
  refine (bytes4_any (prt i o) (by omega) w).mono ?_
  rintro e W1 ⟨rfl, hW⟩
  have hB : BS W1 (some ⟨w.heap.size, 0, none⟩) 4 (be (prt i o) 4) := by
    rw [hW]
    refine ⟨be_len _ _, be_bd _ _, by omega, .inr ⟨w.heap.size, 0, rfl, fun k hk => ?_⟩⟩
    rw [Nat.zero_add, cell_of_row _ _ k _ _ _ (heap_alloc_new w _)]
    have hl : (be (prt i o) 4).length = 4 := be_len _ _
    rw [List.getElem?_toArray, List.getElem?_map, List.getElem?_eq_getElem (by omega), List.getD_eq_getElem?_getD, List.getElem?_eq_getElem (by omega)]
    rfl
  have hb1 : Below w.heap.size w W1 := by rw [hW]; exact below1 w _
  have cv := run_conv_bs (P := Try.prog) 4 hB 26 9 5 Try.underlying26 Try.underlying5 Try.underlying9
  have HB1 : Hid _ := hb1
  have hrun := run_buildO 258 128 (strOfNums (be (prt i o) 4))
  clear hB hb1 hW e1
  generalize hq : be (prt i o) 4 = ds at *
  have HQ : Hid _ := hq
  clear hq hp
  go_wp2
  go_ret
  refine ⟨_, rfl, ?_, HB1.out.alloc HB1.out.size _⟩
  have hf : Fit ds := by rw [← HQ.out]; exact be_bd _ _
  rw [HQ.out]
  exact os_one hf
end Go.Proofs.Ytgonckbdkgiddaa
