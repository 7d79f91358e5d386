/- lives of the laws of dhcp answers true. No condition. -/
import Derived.Test.YtglaheblbomhpaaDG
namespace Go.Proofs.Ytglaheblbomhpaa
open Go.RowKit

theorem own_len {w : World} {base : Nat} {a : Option Addr} {N cap : Nat} {xs : List Int} (h : w.ownsRow base 5 1 (.slice a N cap) N (xs.map (Value.int .u8))) : N = xs.length := by
  have := h.1
  simp at this
  omega

/-- One option in a block of its own. -/
theorem os_lit (w W : World) (os : List Opt) (n : Nat) (hn : os.length = n) (hm : n ≤ 1000000) (hb : Below (w.heap.size + 1) (w.alloc (.cells (optCells os).toArray 45)) W) : OS W (some ⟨w.heap.size, 0, none⟩) n os := by
  have h := os_own (own_opts w w.heap.size os (Nat.le_refl _) n hn hm) (by omega)
  refine OS.below h ?_
  simpa using hb

def livesOs : List Opt := [⟨0, 53, ⟨#[1]⟩⟩]

set_option maxHeartbeats 2000000 in
theorem lives_any (w : World) : Calls Try.prog 9 #[] w fun e w' => e = .returned (.bool true) ∧ Below w.heap.size w w' := by
  have B1 := below1 w (.cells #[.int .i64 0, .int .i64 53, .string ⟨#[1]⟩] 45)
  have B2 := B1.alloc B1.size (.cells #[.int .i64 1, .int .u32 7, .int .i64 0, .int .i64 0, .int .u32 0, .int .u32 0, .int .u32 0, .int .u32 0, .int .u64 9, .slice (some ⟨w.heap.size, 0, none⟩) 1 1] 27)
  have hos : OS ((w.alloc (.cells #[.int .i64 0, .int .i64 53, .string ⟨#[1]⟩] 45)).alloc (.cells #[.int .i64 1, .int .u32 7, .int .i64 0, .int .i64 0, .int .u32 0, .int .u32 0, .int .u32 0, .int .u32 0, .int .u64 9, .slice (some ⟨w.heap.size, 0, none⟩) 1 1] 27)) (some ⟨w.heap.size, 0, none⟩) 1 livesOs :=
    os_lit w _ livesOs 1 rfl (by omega) ((Below.refl _ _).alloc (by simp) _)
  have HB2 : Hid _ := B2
  have HOS : Hid _ := hos
  clear B1 B2 hos
  go_enter Try.func9, Try.ntmps9
  go_wp2_with fail
  refine (encode_yes 1 7 0 0 0 0 0 0 9 _ 1 1 livesOs _ HOS.out (by omega) (by omega) (by omega) (by omega) (by omega) (by omega) (by decide)).mono ?_
  rintro e W1 ⟨a1, N, cap1, rfl, hown, hb1⟩
  obtain rfl : N = 244 := by
    rw [own_len hown]
    unfold encBytes
    rw [List.length_append, List.length_append, fixBytes_len]
    rfl
  clear hown
  obtain ⟨hc1, hf1⟩ := bcell hb1
  have HO1 : Hid _ := HOS.out.below hb1
  have HB1 : Hid (Below w.heap.size w W1) := HB2.out.trans (hb1.mono HB2.out.size)
  have hz1 : w.heap.size + 2 ≤ W1.heap.size := by have := hb1.size; simp at this; omega
  clear hb1
  go_wp2_with fail
  refine (answer_yes 1 7 0 0 0 0 0 0 9 _ 1 1 livesOs 9 5 6 4294967040 0 60 (by omega) (by omega) (by omega) (by omega) (by omega) _ HO1.out (by decide)).mono ?_
  rintro e W2 ⟨g, n', cap', rfl, hg, hos2, hb2⟩
  have hk : kindS (optS livesOs 53) = 2 := by decide
  rw [hk] at hos2
  obtain rfl : n' = 4 := hos2.len.symm.trans rfl
  have HO2 : Hid _ := hos2
  have HB3 : Hid (Below w.heap.size w W2) := HB1.out.trans (hb2.mono HB1.out.size)
  have hz2 : W1.heap.size ≤ W2.heap.size := hb2.size
  clear hb2 hos2 hk hc1 hf1
  unfold dhcpV
  go_wp2_with fail
  refine (find_any 2 7 0 0 0 5 6 0 9 53 _ 4 cap' _ _ (HO2.out.below (below1 W2 _))).mono ?_
  rintro e W3 ⟨rfl, rfl⟩
  rw [show findV (leaseOs 2 6 60 4294967040 0) 53 = .tuple #[.string ⟨#[2]⟩, .bool true] from rfl]
  have hse : ((⟨#[2]⟩ : ByteArray).toList == (⟨#[2]⟩ : ByteArray).toList) = true := by simp
  go_wp2
  go_ret
  refine ⟨?_, ?_⟩
  · rfl
  · exact (HB3.out.alloc HB3.out.size _).alloc (by have := HB3.out.size; simp; omega) _
end Go.Proofs.Ytglaheblbomhpaa
