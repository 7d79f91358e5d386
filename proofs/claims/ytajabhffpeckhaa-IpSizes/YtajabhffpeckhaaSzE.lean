/- The law IpSizes on a whole packet. Conditions: as said. -/
import Derived.Test.YtajabhffpeckhaaFrag
import Derived.Deep.RegionHeld3
import Derived.Deep.RegionWith
import Derived.Deep.DrawnRows
namespace Go.Proofs.Ytajabhffpeckhaa
open Go.ChangeShapes Go.WideShapes Go.ChangeAt Go.RowKit
attribute [local go_sem ↓] Go.wp_at_zero Go.wp_at_succ

set_option maxHeartbeats 40000000 in
theorem ipSizes_no_c (w : World) (tos id frag ttl pr src dst : Int) (os : List Int) (ol : os.length ≤ 140737488351232) (data : Int) (hf : encOk tos id frag ttl pr os.length data = false) (q1 : (bits .and .i64 frag 8191 == 0) = true) (q2 : (bits .and .i64 frag 8192 == 0) = true) :
    Calls Try.prog 5 #[ipV tos id frag ttl pr src dst os, .int .i64 data] w fun e w' => e = .returned (.bool true) ∧ Below w.heap.size w w' := by
  have hun : ipV tos id frag ttl pr src dst os = .agg #[.int .i64 tos, .int .i64 id, .int .i64 frag, .int .i64 ttl, .int .i64 pr, .int .u32 src, .int .u32 dst, .string (strOfNums os)] := rfl
  have hnil : ∀ W, (convert 22 9 (.slice none 0 0)).run Try.prog W = .ok (.string ByteArray.empty) W := fun W => run_convert_bytes_nil W 22 5 Try.underlying22 Try.underlying5 0 0 9 Try.underlying9
  have hsame := whole_same frag
  have A0 := atB_new w #[.int .i64 tos, .int .i64 id, .int .i64 frag, .int .i64 ttl, .int .i64 pr, .int .u32 src, .int .u32 dst, .string (strOfNums os)] 25 _ rfl
  have HA : Hid (AtB (w.alloc (.cells #[.int .i64 tos, .int .i64 id, .int .i64 frag, .int .i64 ttl, .int .i64 pr, .int .u32 src, .int .u32 dst, .string (strOfNums os)] 25)) w.heap.size #[.int .i64 tos, .int .i64 id, .int .i64 frag, .int .i64 ttl, .int .i64 pr, .int .u32 src, .int .u32 dst, .string (strOfNums os)]) := A0
  have hb0 := below1 w (.cells #[.int .i64 tos, .int .i64 id, .int .i64 frag, .int .i64 ttl, .int .i64 pr, .int .u32 src, .int .u32 dst, .string (strOfNums os)] 25)
  clear A0
  rw [hun]
  go_enter Try.func5, Try.ntmps5
  go_wp2_with fail
  rw [← hun]
  refine (encode_no tos id frag ttl pr src dst os data _ (by omega) hf).mono ?_
  rw [hun]
  rintro e W1 ⟨rfl, hb⟩
  have hb1 : Below w.heap.size w W1 := hb0.trans (hb.mono (by simp))
  have A1 : Hid (AtB W1 w.heap.size #[.int .i64 tos, .int .i64 id, .int .i64 frag, .int .i64 ttl, .int .i64 pr, .int .u32 src, .int .u32 dst, .string (strOfNums os)]) := AtB.below HA.out hb
  obtain ⟨x0, x1, x2, x3, x4, x5, x6, x7⟩ := AtB.eight A1.out
  clear hb HA hb0
  go_wp2_with fail
  rw [← hun]
  refine (rencode_no tos id frag ttl pr src dst os data _ (by omega) hf).mono ?_
  rw [hun]
  rintro e W2 ⟨rfl, hb⟩
  have hb2 : Below w.heap.size w W2 := hb1.trans (hb.mono hb1.size)
  have A2 : Hid (AtB W2 w.heap.size #[.int .i64 tos, .int .i64 id, .int .i64 frag, .int .i64 ttl, .int .i64 pr, .int .u32 src, .int .u32 dst, .string (strOfNums os)]) := AtB.below A1.out hb
  clear hb hb1 x0 x1 x2 x3 x4 x5 x6 x7 A1
  go_wp2
  have HS : Hid (∀ W, Below W2.heap.size W2 W → Below W2.heap.size W2 W ∧ W.cell? ⟨w.heap.size, 0, none⟩ = some (.int .i64 tos) ∧ W.cell? ⟨w.heap.size, 1, none⟩ = some (.int .i64 id) ∧ W.cell? ⟨w.heap.size, 2, none⟩ = some (.int .i64 frag) ∧ W.cell? ⟨w.heap.size, 3, none⟩ = some (.int .i64 ttl) ∧ W.cell? ⟨w.heap.size, 4, none⟩ = some (.int .i64 pr) ∧ W.cell? ⟨w.heap.size, 5, none⟩ = some (.int .u32 src) ∧ W.cell? ⟨w.heap.size, 6, none⟩ = some (.int .u32 dst) ∧ W.cell? ⟨w.heap.size, 7, none⟩ = some (.string (strOfNums os)) ∧ (convert 22 9 (.slice none 0 0)).run Try.prog W = .ok (.string (ByteArray.empty)) W) := fun W hW => by
    obtain ⟨x0, x1, x2, x3, x4, x5, x6, x7⟩ := AtB.eight (AtB.below A2.out hW)
    exact ⟨hW, x0, x1, x2, x3, x4, x5, x6, x7, hnil W⟩
  have hB2 := Below.refl W2.heap.size W2
  rw [q1, q2, Bool.true_and] at hsame
  have q3 := hsame.symm
  clear hsame
  go_region_held3 (fun W => Below W2.heap.size W2 W ∧ W.cell? ⟨w.heap.size, 0, none⟩ = some (.int .i64 tos) ∧ W.cell? ⟨w.heap.size, 1, none⟩ = some (.int .i64 id) ∧ W.cell? ⟨w.heap.size, 2, none⟩ = some (.int .i64 frag) ∧ W.cell? ⟨w.heap.size, 3, none⟩ = some (.int .i64 ttl) ∧ W.cell? ⟨w.heap.size, 4, none⟩ = some (.int .i64 pr) ∧ W.cell? ⟨w.heap.size, 5, none⟩ = some (.int .u32 src) ∧ W.cell? ⟨w.heap.size, 6, none⟩ = some (.int .u32 dst) ∧ W.cell? ⟨w.heap.size, 7, none⟩ = some (.string (strOfNums os)) ∧ (convert 22 9 (.slice none 0 0)).run Try.prog W = .ok (.string (ByteArray.empty)) W)
    (first
          | exact HS.out _ (by assumption)
          | exact HS.out _ (Below.drew (by assumption))
          | fail)
    (first
          | (go_at_call 11; refine (lives_from (w := W2) ?_).mono ?_; (first | assumption | exact Below.drew (by assumption)); rintro e W3 ⟨rfl, hb3⟩)
          | (go_at_call 14; refine (ip_First_from (w := W2) ?_ tos id frag ttl pr src dst os).mono ?_; (first | assumption | exact Below.drew (by assumption)); rw [q1]; rintro e W4 ⟨rfl, hb4⟩)
          | (go_at_call 15; refine (r3_First_from (w := W2) ?_ tos id frag ttl pr src dst os).mono ?_; (first | assumption | exact Below.drew (by assumption)); rw [q1]; rintro e W5 ⟨rfl, hb5⟩)
          | (go_at_call 16; refine (ip_Whole_from (w := W2) ?_ tos id frag ttl pr src dst os).mono ?_; (first | assumption | exact Below.drew (by assumption)); rw [q1, q2]; simp only [Bool.true_and]; rintro e W6 ⟨rfl, hb6⟩)
          | (go_at_call 17; refine (r3_Whole_from (w := W2) ?_ tos id frag ttl pr src dst os).mono ?_; (first | assumption | exact Below.drew (by assumption)); rw [q3]; rintro e W7 ⟨rfl, hb7⟩)
          | fail)
  all_goals
    go_wp2
    go_ret
    exact ⟨rfl, hb2.trans (Below.mono (by assumption) hb2.size)⟩

set_option maxHeartbeats 40000000 in
theorem ipSizes_yes_c (w : World) (tos id frag ttl pr src dst : Int) (os : List Int) (bs : 0 ≤ src ∧ src ≤ 4294967295) (bd : 0 ≤ dst ∧ dst ≤ 4294967295) (bo : ∀ i, 0 ≤ os.getD i 0 ∧ os.getD i 0 ≤ 255) (ol : os.length ≤ 140737488351232) (data : Int) (hf : encOk tos id frag ttl pr os.length data = true) (q1 : (bits .and .i64 frag 8191 == 0) = true) (q2 : (bits .and .i64 frag 8192 == 0) = true) :
    Calls Try.prog 5 #[ipV tos id frag ttl pr src dst os, .int .i64 data] w fun e w' => e = .returned (.bool true) ∧ Below w.heap.size w w' := by
  have hun : ipV tos id frag ttl pr src dst os = .agg #[.int .i64 tos, .int .i64 id, .int .i64 frag, .int .i64 ttl, .int .i64 pr, .int .u32 src, .int .u32 dst, .string (strOfNums os)] := rfl
  have hsame := whole_same frag
  have A0 := atB_new w #[.int .i64 tos, .int .i64 id, .int .i64 frag, .int .i64 ttl, .int .i64 pr, .int .u32 src, .int .u32 dst, .string (strOfNums os)] 25 _ rfl
  have HA : Hid (AtB (w.alloc (.cells #[.int .i64 tos, .int .i64 id, .int .i64 frag, .int .i64 ttl, .int .i64 pr, .int .u32 src, .int .u32 dst, .string (strOfNums os)] 25)) w.heap.size #[.int .i64 tos, .int .i64 id, .int .i64 frag, .int .i64 ttl, .int .i64 pr, .int .u32 src, .int .u32 dst, .string (strOfNums os)]) := A0
  have hb0 := below1 w (.cells #[.int .i64 tos, .int .i64 id, .int .i64 frag, .int .i64 ttl, .int .i64 pr, .int .u32 src, .int .u32 dst, .string (strOfNums os)] 25)
  have HBb : Hid _ := ipB_bd (encOk_yes hf) bs bd bo
  clear A0
  rw [hun]
  go_enter Try.func5, Try.ntmps5
  go_wp2_with fail
  rw [← hun]
  refine (encode_yes tos id frag ttl pr src dst os data _ bs bd bo hf).mono ?_
  rw [hun]
  rintro e W1 ⟨a1, c1, rfl, ho, hb⟩
  have hb1 : Below w.heap.size w W1 := hb0.trans (hb.mono (by simp))
  have O1 : Hid (BS W1 a1 (20 + os.length) (ipB tos id frag ttl pr src dst os data)) := own_bs ho HBb.out (by omega)
  have A1 : Hid (AtB W1 w.heap.size #[.int .i64 tos, .int .i64 id, .int .i64 frag, .int .i64 ttl, .int .i64 pr, .int .u32 src, .int .u32 dst, .string (strOfNums os)]) := AtB.below HA.out hb
  obtain ⟨x0, x1, x2, x3, x4, x5, x6, x7⟩ := AtB.eight A1.out
  clear hb HA hb0 ho
  go_wp2_with fail
  rw [← hun]
  refine (rencode_yes tos id frag ttl pr src dst os data _ bs bd bo hf).mono ?_
  rw [hun]
  rintro e W2 ⟨a2, c2, rfl, ho, hb⟩
  have hb2 : Below w.heap.size w W2 := hb1.trans (hb.mono hb1.size)
  have A2 : Hid (AtB W2 w.heap.size #[.int .i64 tos, .int .i64 id, .int .i64 frag, .int .i64 ttl, .int .i64 pr, .int .u32 src, .int .u32 dst, .string (strOfNums os)]) := AtB.below A1.out hb
  have O2 : Hid (BS W2 a1 (20 + os.length) (ipB tos id frag ttl pr src dst os data)) := O1.out.below hb
  have R2 : Hid (BS W2 a2 (20 + os.length) (ipB tos id frag ttl pr src dst os data)) := ho
  clear hb hb1 x0 x1 x2 x3 x4 x5 x6 x7 A1 ho O1
  generalize ipB tos id frag ttl pr src dst os data = B at *
  go_wp2
  have HS : Hid (∀ W, Below W2.heap.size W2 W → Below W2.heap.size W2 W ∧ W.cell? ⟨w.heap.size, 0, none⟩ = some (.int .i64 tos) ∧ W.cell? ⟨w.heap.size, 1, none⟩ = some (.int .i64 id) ∧ W.cell? ⟨w.heap.size, 2, none⟩ = some (.int .i64 frag) ∧ W.cell? ⟨w.heap.size, 3, none⟩ = some (.int .i64 ttl) ∧ W.cell? ⟨w.heap.size, 4, none⟩ = some (.int .i64 pr) ∧ W.cell? ⟨w.heap.size, 5, none⟩ = some (.int .u32 src) ∧ W.cell? ⟨w.heap.size, 6, none⟩ = some (.int .u32 dst) ∧ W.cell? ⟨w.heap.size, 7, none⟩ = some (.string (strOfNums os)) ∧ (convert 22 9 (.slice a1 (20 + os.length) c1)).run Try.prog W = .ok (.string (strOfNums B)) W ∧ (convert 22 9 (.slice a2 (20 + os.length) c2)).run Try.prog W = .ok (.string (strOfNums B)) W) := fun W hW => by
    obtain ⟨x0, x1, x2, x3, x4, x5, x6, x7⟩ := AtB.eight (AtB.below A2.out hW)
    exact ⟨hW, x0, x1, x2, x3, x4, x5, x6, x7, run_conv_bs _ (O2.out.below hW) 22 9 5 Try.underlying22 Try.underlying5 Try.underlying9, run_conv_bs _ (R2.out.below hW) 22 9 5 Try.underlying22 Try.underlying5 Try.underlying9⟩
  have hB2 := Below.refl W2.heap.size W2
  rw [q1, q2, Bool.true_and] at hsame
  have q3 := hsame.symm
  clear hsame
  go_region_held3 (fun W => Below W2.heap.size W2 W ∧ W.cell? ⟨w.heap.size, 0, none⟩ = some (.int .i64 tos) ∧ W.cell? ⟨w.heap.size, 1, none⟩ = some (.int .i64 id) ∧ W.cell? ⟨w.heap.size, 2, none⟩ = some (.int .i64 frag) ∧ W.cell? ⟨w.heap.size, 3, none⟩ = some (.int .i64 ttl) ∧ W.cell? ⟨w.heap.size, 4, none⟩ = some (.int .i64 pr) ∧ W.cell? ⟨w.heap.size, 5, none⟩ = some (.int .u32 src) ∧ W.cell? ⟨w.heap.size, 6, none⟩ = some (.int .u32 dst) ∧ W.cell? ⟨w.heap.size, 7, none⟩ = some (.string (strOfNums os)) ∧ (convert 22 9 (.slice a1 (20 + os.length) c1)).run Try.prog W = .ok (.string (strOfNums B)) W ∧ (convert 22 9 (.slice a2 (20 + os.length) c2)).run Try.prog W = .ok (.string (strOfNums B)) W)
    (first
          | exact HS.out _ (by assumption)
          | exact HS.out _ (Below.drew (by assumption))
          | fail)
    (first
          | (go_at_call 11; refine (lives_from (w := W2) ?_).mono ?_; (first | assumption | exact Below.drew (by assumption)); rintro e W3 ⟨rfl, hb3⟩)
          | (go_at_call 14; refine (ip_First_from (w := W2) ?_ tos id frag ttl pr src dst os).mono ?_; (first | assumption | exact Below.drew (by assumption)); rw [q1]; rintro e W4 ⟨rfl, hb4⟩)
          | (go_at_call 15; refine (r3_First_from (w := W2) ?_ tos id frag ttl pr src dst os).mono ?_; (first | assumption | exact Below.drew (by assumption)); rw [q1]; rintro e W5 ⟨rfl, hb5⟩)
          | (go_at_call 16; refine (ip_Whole_from (w := W2) ?_ tos id frag ttl pr src dst os).mono ?_; (first | assumption | exact Below.drew (by assumption)); rw [q1, q2]; simp only [Bool.true_and]; rintro e W6 ⟨rfl, hb6⟩)
          | (go_at_call 17; refine (r3_Whole_from (w := W2) ?_ tos id frag ttl pr src dst os).mono ?_; (first | assumption | exact Below.drew (by assumption)); rw [q3]; rintro e W7 ⟨rfl, hb7⟩)
          | fail)
  all_goals
    go_wp2
    go_ret
    exact ⟨rfl, hb2.trans (Below.mono (by assumption) hb2.size)⟩

end Go.Proofs.Ytajabhffpeckhaa
