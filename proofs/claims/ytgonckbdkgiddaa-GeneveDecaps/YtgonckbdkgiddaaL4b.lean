/- What Pseudo of package sum and of the reference, and sumOf, checkAt, sizeOf, numbersFit of package l4 answer. Conditions: addresses of 32 bits, readable bytes. -/
import Derived.Test.YtgonckbdkgiddaaL4a
namespace Go.Proofs.Ytgonckbdkgiddaa
open Go.RowKit

theorem words_any (w : World) (v : Int) (hv : 0 ≤ v ∧ v ≤ 4294967295) :
    Calls Try.prog 74 #[.int .u32 v] w fun e w' => e = .returned (.int .u64 (v / 65536 + v % 65536)) ∧ w' = w := by
  have ha : bits .and .u32 v 65535 = v % 65536 := by
    rw [u32_and v 65535 hv.1 (by omega) (by omega) (by omega), show (65535 : Int).toNat = 65535 from rfl, nat_mask16]; omega
  go_enter Try.func74, Try.ntmps74
  go_wp2
  go_ret
  exact ⟨rfl, rfl⟩

theorem i64_and255 (n : Int) : bits .and .i64 n 255 = n % 256 := by
  have h : (BitVec.ofInt 64 255).toNat = 2 ^ 8 - 1 := by decide
  have key : (BitVec.ofInt 64 n &&& BitVec.ofInt 64 255).toNat = (n % ((2 ^ 64 : Nat) : Int)).toNat % 2 ^ 8 := by
    rw [BitVec.toNat_and, BitVec.toNat_ofInt, h, Nat.and_two_pow_sub_one_eq_mod]
  show IntKind.i64.wrap ((BitVec.ofInt 64 n &&& BitVec.ofInt 64 255).toNat : Nat) = n % 256
  rw [key, IntKind.wrap_i64]
  omega
theorem i64_and65535 (n : Int) : bits .and .i64 n 65535 = n % 65536 := by
  have h : (BitVec.ofInt 64 65535).toNat = 2 ^ 16 - 1 := by decide
  have key : (BitVec.ofInt 64 n &&& BitVec.ofInt 64 65535).toNat = (n % ((2 ^ 64 : Nat) : Int)).toNat % 2 ^ 16 := by
    rw [BitVec.toNat_and, BitVec.toNat_ofInt, h, Nat.and_two_pow_sub_one_eq_mod]
  show IntKind.i64.wrap ((BitVec.ofInt 64 n &&& BitVec.ofInt 64 65535).toNat : Nat) = n % 65536
  rw [key, IntKind.wrap_i64]
  omega

def psd (src dst proto size : Int) : Int := fld (src / 65536 + src % 65536 + (dst / 65536 + dst % 65536) + proto % 256 + size % 65536)

theorem pseudo_any (w : World) (src dst proto size : Int) (h1 : 0 ≤ src ∧ src ≤ 4294967295) (h2 : 0 ≤ dst ∧ dst ≤ 4294967295) :
    Calls Try.prog 69 #[.int .u32 src, .int .u32 dst, .int .i64 proto, .int .i64 size] w fun e w' => e = .returned (.int .u16 (psd src dst proto size)) ∧ w' = w := by
  have e1 := i64_and255 proto
  have e2 := i64_and65535 size
  go_enter Try.func69, Try.ntmps69
  go_wp2_with (first | (go_at_call 74; refine (words_any _ _ (by omega)).mono ?_; rintro e w' ⟨rfl, rfl⟩) | (go_at_call 73; refine (fold_any _ (by omega) (by omega) _).mono ?_; rintro e w' ⟨rfl, rfl⟩))
  go_ret
  exact ⟨rfl, rfl⟩

theorem rpseudo_any (w : World) (src dst proto size : Int) (h1 : 0 ≤ src ∧ src ≤ 4294967295) (h2 : 0 ≤ dst ∧ dst ≤ 4294967295) :
    Calls Try.prog 51 #[.int .u32 src, .int .u32 dst, .int .i64 proto, .int .i64 size] w fun e w' => e = .returned (.int .u16 (psd src dst proto size)) ∧ w' = w := by
  have b1 := fld_bd (src / 65536 + src % 65536) (by omega)
  have b2 := fld_bd (dst / 65536 + dst % 65536) (by omega)
  have b3 := fld_bd (fld (src / 65536 + src % 65536) + fld (dst / 65536 + dst % 65536)) (by omega)
  have b4 := fld_bd (proto % 256 + size % 65536) (by omega)
  have hf : Hid (fld (fld (fld (src / 65536 + src % 65536) + fld (dst / 65536 + dst % 65536)) + fld (proto % 256 + size % 65536)) = psd src dst proto size) := by
    show _ = _
    rw [fld_both _ _ (by omega) (by omega), Int.add_assoc, fld_add _ _ (by omega) (by omega), Int.add_comm, Int.add_assoc, fld_add _ _ (by omega) (by omega)]
    unfold psd; congr 1; omega
  have hw1 : IntKind.u16.wrap size = size % 65536 := IntKind.wrap_u16 size
  go_enter Try.func51, Try.ntmps51
  go_wp2_with (first | (go_at_call 50; refine (radd_any _ _ (by omega) (by omega) (by omega) (by omega) _).mono ?_; rintro e w' ⟨rfl, rfl⟩))
  go_ret
  exact ⟨ret_int hf.out, rfl⟩


def protoN (k : Int) : Int := if k = 1 then 1 else if k = 2 then 17 else if k = 3 then 6 else 0
theorem protoV_fst (k : Int) : ∃ b, protoV k = .tuple #[.int .i64 (protoN k), .bool b] := by
  unfold protoV protoN
  by_cases h1 : k = 1
  · exact ⟨true, by rw [if_pos h1, if_pos h1]⟩
  by_cases h2 : k = 2
  · exact ⟨true, by rw [if_neg h1, if_neg h1, if_pos h2, if_pos h2]⟩
  by_cases h3 : k = 3
  · exact ⟨true, by rw [if_neg h1, if_neg h1, if_neg h2, if_neg h2, if_pos h3, if_pos h3]⟩
  · exact ⟨false, by rw [if_neg h1, if_neg h1, if_neg h2, if_neg h2, if_neg h3, if_neg h3]⟩

/-- The sum of all that a check sum is over. -/
def sumV (src dst k : Int) (zs : List Int) : Int := if k = 1 then fld (wsum zs) else fld (psd src dst (protoN k) zs.length + fld (wsum zs))
theorem psd_bd (src dst p n : Int) (h1 : 0 ≤ src) (h2 : 0 ≤ dst) : 0 ≤ psd src dst p n ∧ psd src dst p n ≤ 65535 := by
  unfold psd
  exact fld_bd _ (by omega)
theorem sumV_bd (src dst k : Int) (zs : List Int) (h1 : 0 ≤ src) (h2 : 0 ≤ dst) (hz : ∀ i, 0 ≤ zs.getD i 0 ∧ zs.getD i 0 ≤ 255) : 0 ≤ sumV src dst k zs ∧ sumV src dst k zs ≤ 65535 := by
  have a := psd_bd src dst (protoN k) zs.length h1 h2
  have b := fld_bd _ (wsum_bd hz)
  unfold sumV
  split
  · exact b
  · exact fld_bd _ (by omega)

theorem sumOf_any (src dst k : Int) (h1 : 0 ≤ src ∧ src ≤ 4294967295) (h2 : 0 ≤ dst ∧ dst ≤ 4294967295) {a : Option Addr} {n : Nat} {zs : List Int} {w : World} (cap : Nat) (h : BS w a n zs) :
    Calls Try.prog 41 #[.int .u32 src, .int .u32 dst, .int .i64 k, .slice a n cap] w fun e w' => e = .returned (.int .u16 (sumV src dst k zs)) ∧ ∃ nq, w' = w.drewN nq := by
  have hl := h.len
  have hb := fld_bd _ (wsum_bd h.fits)
  have hp := psd_bd src dst (protoN k) n h1.1 h2.1
  have H : Hid _ := h
  by_cases hk : k = 1
  · subst hk
    have e : sumV src dst 1 zs = fld (wsum zs) := by unfold sumV; rw [if_pos rfl]
    rw [e]
    clear h
    go_enter Try.func41, Try.ntmps41
    go_wp2_with (go_at_call 66; refine (sum_any _ H.out).mono ?_; rintro e w' ⟨rfl, nq, rfl⟩)
    go_ret
    exact ⟨rfl, _, rfl⟩
  · have e : sumV src dst k zs = fld (psd src dst (protoN k) n + fld (wsum zs)) := by unfold sumV; rw [if_neg hk, hl]
    rw [e]
    have hkb : (k == 1) = false := by simp [hk]
    obtain ⟨b, hpv⟩ := protoV_fst k
    have Hpv : Hid _ := hpv
    have hnI : (n : Int) ≤ 281474976710656 := by have := h.room; omega
    clear h hpv
    go_enter Try.func41, Try.ntmps41
    go_wp2_with fail
    refine (proto_any k _).mono ?_
    rintro e w1 ⟨rfl, rfl⟩
    rw [Hpv.out]
    go_wp2_with (first
      | (go_at_call 69; refine (pseudo_any _ _ _ _ _ h1 h2).mono ?_; rintro e w' ⟨rfl, rfl⟩)
      | (go_at_call 66; refine (sum_any _ H.out).mono ?_; rintro e w' ⟨rfl, nq, rfl⟩)
      | (go_at_call 68; refine (add_any _ _ (by omega) (by omega) (by omega) (by omega) _).mono ?_; rintro e w' ⟨rfl, rfl⟩)
      | fail)
    go_ret
    exact ⟨rfl, _, rfl⟩
end Go.Proofs.Ytgonckbdkgiddaa
