/- The document's Digits, up to 255, and AddrText. No condition. -/
import Derived.Test.YtkianiglibkbhaaDoorEF
import Derived.Deep.RegionHeld3
namespace Go.Proofs.YtkianiglibkbhaaDoor
open Go.RowKit
theorem bs_single (w : World) (x : Int) (B : Nat) (hB : B = w.heap.size) (hx : 0 ≤ x ∧ x ≤ 255) :
    BS (w.alloc (.cells #[.int .u8 x] 5)) (some ⟨B, 0, none⟩) 1 [x] := by
  refine bs_new 5 w _ [x] 1 B hB rfl rfl ?_ (by omega)
  simp [hx]
theorem decs_step (n : Int) (h0 : 10 ≤ n) (h1 : n ≤ 255) : decs (n / 10) ++ [48 + n % 10] = decs n := by
  unfold decs
  rcases (by omega : n ≤ 99 ∨ 100 ≤ n) with h | h
  · rw [if_pos (by omega), if_neg (by omega), if_pos h]; rfl
  · rw [if_neg (by omega), if_pos (by omega), if_neg (by omega), if_neg (by omega)]
    simp; omega
theorem conv_one (w : World) (x : Int) (hx : 0 ≤ x ∧ x ≤ 255) : (convert 42 9 (.slice (some ⟨w.heap.size, 0, none⟩) 1 1)).run Tryd.prog (w.alloc (.cells #[.int .u8 x] 5)) = .ok (.string (strOfNums [x])) (w.alloc (.cells #[.int .u8 x] 5)) :=
  run_conv_bs _ (bs_single w x _ rfl hx) 42 9 5 Tryd.underlying42 Tryd.underlying5 Tryd.underlying9
set_option maxHeartbeats 1000000 in
theorem digits_any (n : Int) (h0 : 0 ≤ n) (h1 : n ≤ 255) (w : World) :
    Calls Tryd.prog 21 #[.int .i64 n] w fun e w' => e = .returned (.string (strOfNums (decs n))) ∧ Below w.heap.size w w' := by
  go_enter Tryd.func21, Tryd.ntmps21
  go_wp2_with fail
  go_loopw [0, 3] (fun a s wr => ∃ (k : Int) (l : List Int), 0 ≤ k ∧ k ≤ 255 ∧ l.length ≤ 3 ∧ Hid (decs k ++ l = decs n) ∧ a = .int .i64 k ∧ s = .string (strOfNums l) ∧ Hid (Below w.heap.size w wr)) (fun a _ _ => (intOf a).toNat)
  case atStart => exact ⟨n, [], h0, h1, by simp, List.append_nil _, rfl, rfl, Below.refl _ _⟩
  case round =>
    obtain ⟨k, l, k0, k1, hl, hd, rfl, rfl, HB⟩ := hrel
    have hz : (strOfNums l).size ≤ 3 := by rw [str_size]; exact hl
    rcases (by omega : k ≤ 9 ∨ 10 ≤ k) with hk | hk
    · have e1 : IntKind.u8.wrap (48 + k) = 48 + k := by rw [IntKind.wrap_u8]; omega
      have e2 : wrap64 (48 + k) = 48 + k := by unfold wrap64; omega
      have hcv := conv_one wr (48 + k) (by omega)
      have z1 : (strOfNums [48 + k]).size = 1 := rfl
      go_wp2
      go_ret
      refine ⟨?_, HB.out.alloc HB.out.size _⟩
      rw [str_app, ← hd.out]
      show _ = Ending.returned (Value.string (strOfNums (decs k ++ l)))
      rw [show decs k = [48 + k] from if_pos hk]
      rfl
    · have e0 : k.tmod 10 = k % 10 := Int.tmod_eq_emod_of_nonneg k0
      have e3 : k.tdiv 10 = k / 10 := Int.tdiv_eq_ediv_of_nonneg k0
      have e1 : IntKind.u8.wrap (48 + k % 10) = 48 + k % 10 := by rw [IntKind.wrap_u8]; omega
      have e2 : wrap64 (48 + k % 10) = 48 + k % 10 := by unfold wrap64; omega
      have hcv := conv_one wr (48 + k % 10) (by omega)
      have z1 : (strOfNums [48 + k % 10]).size = 1 := rfl
      have hd2 : Hid (decs (k / 10) ++ ([48 + k % 10] ++ l) = decs n) := by
        have := hd.out
        rw [← decs_step k hk k1] at this
        exact (by simpa using this : decs (k / 10) ++ ([48 + k % 10] ++ l) = decs n)
      have hl2 : ([48 + k % 10] ++ l).length ≤ 3 := by
        have h1 := decs_len n
        rw [← hd2.out, List.length_append] at h1
        omega
      go_wp2
      refine ⟨⟨k / 10, [48 + k % 10] ++ l, by omega, by omega, hl2, hd2, rfl, by rw [str_app], HB.out.alloc HB.out.size _⟩, ?_⟩
      show (k / 10).toNat < k.toNat
      omega
set_option maxHeartbeats 1000000 in
theorem raddrText_any (ip : Int) (hip : 0 ≤ ip ∧ ip ≤ 4294967295) (w : World) :
    Calls Tryd.prog 14 #[.int .u32 ip] w fun e w' => e = .returned (.string (strOfNums (addrText ip))) ∧ Below w.heap.size w w' := by
  have z1 := decs_size (ip / 16777216 % 256)
  have z2 := decs_size (ip / 65536 % 256)
  have z3 := decs_size (ip / 256 % 256)
  have z4 := decs_size (ip % 256)
  have q1 : ip / 16777216 % 256 = ip / 16777216 := by omega
  have e1 : ip.tdiv 16777216 = ip / 16777216 := Int.tdiv_eq_ediv_of_nonneg hip.1
  have e2 : ip.tdiv 65536 = ip / 65536 := Int.tdiv_eq_ediv_of_nonneg hip.1
  have e3 : ip.tdiv 256 = ip / 256 := Int.tdiv_eq_ediv_of_nonneg hip.1
  have e4 : (ip / 65536).tmod 256 = ip / 65536 % 256 := Int.tmod_eq_emod_of_nonneg (by omega)
  have e5 : (ip / 256).tmod 256 = ip / 256 % 256 := Int.tmod_eq_emod_of_nonneg (by omega)
  have e6 : ip.tmod 256 = ip % 256 := Int.tmod_eq_emod_of_nonneg (by omega)
  rw [q1] at z1
  go_enter Tryd.func14, Tryd.ntmps14
  go_wp2_with fail
  refine (digits_any (ip / 16777216) (by omega) (by omega) _).mono ?_
  rintro e w1 ⟨rfl, b1⟩
  have B1 : Hid (Below w.heap.size w w1) := b1
  clear b1
  go_wp2_with fail
  refine (digits_any (ip / 65536 % 256) (by omega) (by omega) _).mono ?_
  rintro e w2 ⟨rfl, b2⟩
  have B2 : Hid (Below w.heap.size w w2) := B1.out.trans (b2.mono (by have := B1.out.size; omega))
  clear b2
  go_wp2_with fail
  refine (digits_any (ip / 256 % 256) (by omega) (by omega) _).mono ?_
  rintro e w3 ⟨rfl, b3⟩
  have B3 : Hid (Below w.heap.size w w3) := B2.out.trans (b3.mono (by have := B2.out.size; omega))
  clear b3
  go_wp2_with fail
  refine (digits_any (ip % 256) (by omega) (by omega) _).mono ?_
  rintro e w4 ⟨rfl, b4⟩
  have B4 : Hid (Below w.heap.size w w4) := B3.out.trans (b4.mono (by have := B3.out.size; omega))
  clear b4
  go_wp2
  go_ret
  refine ⟨?_, B4.out⟩
  have h46 : (⟨#[46]⟩ : ByteArray) = strOfNums [46] := rfl
  rw [h46]
  unfold addrText
  simp only [str_app, Int.ediv_one, q1]
  rfl
end Go.Proofs.YtkianiglibkbhaaDoor
