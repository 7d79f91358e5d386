/- Parts of the proof, in one text. -/
import Derived.Test.YtgonckbdkgiddaaDI
import Derived.Deep.RegionHeld3
import Derived.Deep.RegionWith
import Derived.Deep.DrawnRows
import Derived.Deep.RegionLaw
import Derived.Test.YtgonckbdkgiddaaQHF
namespace Go.Proofs.Ytgonckbdkgiddaa.Ip
open Go.RowKit
end Go.Proofs.Ytgonckbdkgiddaa.Ip
namespace Go.Proofs.Ytgonckbdkgiddaa
open Go.RowKit
end Go.Proofs.Ytgonckbdkgiddaa

namespace Go.Proofs.Ytgonckbdkgiddaa.Ip
open Go.RowKit

theorem eight_any (v : Int) (w : World) : Calls Try.prog 53 #[.int .i64 v] w fun e w' => e = .returned (.bool (fit8 v)) ∧ w' = w := by
  by_cases h1 : 0 ≤ v
  · have e : fit8 v = decide (v < 256) := by unfold fit8; rw [Bool.eq_iff_iff]; simp; omega
    rw [e]
    clear e
    go_enter Try.func53, Try.ntmps53
    go_wp2
    go_ret
    exact ⟨rfl, rfl⟩
  · have e : fit8 v = false := by simp [fit8, h1]
    rw [e]
    go_enter Try.func53, Try.ntmps53
    go_wp2
    go_ret
    exact ⟨by simp, rfl⟩
theorem sixteen_any (v : Int) (w : World) : Calls Try.prog 54 #[.int .i64 v] w fun e w' => e = .returned (.bool (fit16 v)) ∧ w' = w := by
  by_cases h1 : 0 ≤ v
  · have e : fit16 v = decide (v < 65536) := by unfold fit16; rw [Bool.eq_iff_iff]; simp; omega
    rw [e]
    clear e
    go_enter Try.func54, Try.ntmps54
    go_wp2
    go_ret
    exact ⟨rfl, rfl⟩
  · have e : fit16 v = false := by simp [fit16, h1]
    rw [e]
    go_enter Try.func54, Try.ntmps54
    go_wp2
    go_ret
    exact ⟨by simp, rfl⟩

end Go.Proofs.Ytgonckbdkgiddaa.Ip

namespace Go.Proofs.Ytgonckbdkgiddaa.Ip
open Go.RowKit
attribute [local go_sem ↓] Go.wp_at_zero Go.wp_at_succ

theorem pre_hb2 {tos id frag ttl pr src dst : Int} {os : List Int} {data : Int} (hf : HF tos id frag ttl pr os.length data) (hs : 0 ≤ src ∧ src ≤ 4294967295) (hd : 0 ≤ dst ∧ dst ≤ 4294967295) :
    [64 + (20 + (os.length : Int)) / 4, tos] ++ be (20 + (os.length : Int) + data) (2 : Int).toNat ++ be id (2 : Int).toNat ++ be frag (2 : Int).toNat ++ [ttl, pr, 0, 0] ++ be src (4 : Int).toNat ++ be dst (4 : Int).toNat ++ os = hb tos id frag ttl pr src dst os data 0 := by
  obtain ⟨f1, f2, f3, f4, f5, f6, f7, f8⟩ := hf
  have q8 : (2 : Int) ^ (8 * 1) = 256 := by decide
  have q0 : (2 : Int) ^ (8 * 0) = 1 := by decide
  have q16 : (2 : Int) ^ (8 * 2) = 65536 := by decide
  have q24 : (2 : Int) ^ (8 * 3) = 16777216 := by decide
  simp only [Int.reduceToNat, be, hb, List.nil_append, List.cons_append, List.cons.injEq, q0, q8, q16, q24]
  simp
  omega

set_option maxHeartbeats 4000000 in
theorem rencode_own (tos id frag ttl pr src dst : Int) (os : List Int) (data : Int) (w : World) (hs : 0 ≤ src ∧ src ≤ 4294967295) (hd : 0 ≤ dst ∧ dst ≤ 4294967295) (ho : ∀ i, 0 ≤ os.getD i 0 ∧ os.getD i 0 ≤ 255) (h : encOk tos id frag ttl pr os.length data = true) :
    Calls Try.prog 23 #[ipV tos id frag ttl pr src dst os, .int .i64 data] w fun e w' => ∃ a cap, e = .returned (.tuple #[.slice a (20 + os.length) cap, .int .i64 0]) ∧ w'.ownsRow w.heap.size 5 1 (.slice a (20 + os.length) cap) (20 + os.length) ((ipB tos id frag ttl pr src dst os data).map (Value.int .u8)) ∧ Below w.heap.size w w' := by
  obtain ⟨f1, f2, f3, f4, f5, f6, f7, f8⟩ := encOk_yes h
  have HF0 : Hid (HF tos id frag ttl pr os.length data) := encOk_yes h
  have c0 : fit8 tos = true := by simp [fit8, f1]
  have c1 : fit8 ttl = true := by simp [fit8, f2]
  have c2 : fit8 pr = true := by simp [fit8, f3]
  have c3 : fit16 id = true := by simp [fit16, f4]
  have c4 : fit16 frag = true := by simp [fit16, f5]
  clear h
  have hsz := strOfNums_size os
  have hnI : (os.length : Int) ≤ 40 := by omega
  have hn40 : ¬ (40 : Int) < os.length := by omega
  have ht : (os.length : Int).tmod 4 = (os.length : Int) % 4 := Int.tmod_eq_emod_of_nonneg (by omega)
  have ht0 : ((os.length : Int) % 4 != 0) = false := by simp; omega
  have hd0 : ¬ data < 0 := by omega
  have hd1 : ¬ 65535 - (20 + (os.length : Int)) < data := by omega
  rw [show ipV tos id frag ttl pr src dst os = .agg #[.int .i64 tos, .int .i64 id, .int .i64 frag, .int .i64 ttl, .int .i64 pr, .int .u32 src, .int .u32 dst, .string (strOfNums os)] from rfl]
  go_enter Try.func23, Try.ntmps23
  go_wp2_with (first
      | (go_at_call 53; refine (eight_any _ _).mono ?_; rintro e w' ⟨rfl, rfl⟩)
      | (go_at_call 54; refine (sixteen_any _ _).mono ?_; rintro e w' ⟨rfl, rfl⟩)
      | fail)
  clear c0 c1 c2 c3 c4 ht ht0
  have hA := atB_new w #[.int .i64 tos, .int .i64 id, .int .i64 frag, .int .i64 ttl, .int .i64 pr, .int .u32 src, .int .u32 dst, .string (strOfNums os)] 51 _ rfl
  have hbw := below1 w (.cells #[.int .i64 tos, .int .i64 id, .int .i64 frag, .int .i64 ttl, .int .i64 pr, .int .u32 src, .int .u32 dst, .string (strOfNums os)] 51)
  have r0 : RB (w.alloc (.cells #[.int .i64 tos, .int .i64 id, .int .i64 frag, .int .i64 ttl, .int .i64 pr, .int .u32 src, .int .u32 dst, .string (strOfNums os)] 51)) ((w.alloc (.cells #[.int .i64 tos, .int .i64 id, .int .i64 frag, .int .i64 ttl, .int .i64 pr, .int .u32 src, .int .u32 dst, .string (strOfNums os)] 51)).alloc (.cells #[.int .u8 (64 + (20 + (os.length : Int)) / 4), .int .u8 tos] 5)) (.slice (some ⟨w.heap.size + 1, 0, none⟩) 2 2) 2 [64 + (20 + (os.length : Int)) / 4, tos] := by
    refine ⟨?_, below1 _ _⟩
    have := World.ownsRow_lit (base := (w.alloc (.cells #[.int .i64 tos, .int .i64 id, .int .i64 frag, .int .i64 ttl, .int .i64 pr, .int .u32 src, .int .u32 dst, .string (strOfNums os)] 51)).heap.size) (e := 5) (size := 1) (w.alloc (.cells #[.int .i64 tos, .int .i64 id, .int .i64 frag, .int .i64 ttl, .int .i64 pr, .int .u32 src, .int .u32 dst, .string (strOfNums os)] 51)) #[.int .u8 (64 + (20 + (os.length : Int)) / 4), .int .u8 tos] 2 (Nat.le_refl _) (by unfold maxLen; omega) rfl
    simpa using this
  have hw1 : w.heap.size < (w.alloc (.cells #[.int .i64 tos, .int .i64 id, .int .i64 frag, .int .i64 ttl, .int .i64 pr, .int .u32 src, .int .u32 dst, .string (strOfNums os)] 51)).heap.size := by simp
  have hw1' : (w.alloc (.cells #[.int .i64 tos, .int .i64 id, .int .i64 frag, .int .i64 ttl, .int .i64 pr, .int .u32 src, .int .u32 dst, .string (strOfNums os)] 51)).heap.size = w.heap.size + 1 := by simp
  have HA : Hid (AtB (w.alloc (.cells #[.int .i64 tos, .int .i64 id, .int .i64 frag, .int .i64 ttl, .int .i64 pr, .int .u32 src, .int .u32 dst, .string (strOfNums os)] 51)) w.heap.size #[.int .i64 tos, .int .i64 id, .int .i64 frag, .int .i64 ttl, .int .i64 pr, .int .u32 src, .int .u32 dst, .string (strOfNums os)]) := hA
  clear hA
  generalize (w.alloc (.cells #[.int .i64 tos, .int .i64 id, .int .i64 frag, .int .i64 ttl, .int .i64 pr, .int .u32 src, .int .u32 dst, .string (strOfNums os)] 51)) = w1 at *
  have R0 : Hid _ := r0
  refine (bytes_next made2 (by omega) r0 _ (by omega)).mono ?_
  rintro e W1 ⟨a1, rfl, r1, b1⟩
  clear r0 R0
  obtain ⟨x0, x1, x2, x3, x4, x5, x6, x7⟩ := AtB.eight (AtB.below HA.out r1.bel)
  go_wp2_with (at_builtin; refine wpList_append_rb Try.underlying26 info5 ?_ (.tmp 72) (.tmp 77) ?_ _ _ _ ?_ r1 _ _ 2 _ ?_ b1 ?_ ?_; rfl; rfl; rfl; rfl; simp; intro a2 c2 W2 r2; clear x0 x1 x2 x3 x4 x5 x6 x7; obtain ⟨x0, x1, x2, x3, x4, x5, x6, x7⟩ := AtB.eight (AtB.below HA.out r2.bel); clear r1 b1)
  refine (bytes_next made2 (by omega) r2 _ (by omega)).mono ?_
  rintro e W3 ⟨a3, rfl, r3, b3⟩
  clear r2 x0 x1 x2 x3 x4 x5 x6 x7
  obtain ⟨x0, x1, x2, x3, x4, x5, x6, x7⟩ := AtB.eight (AtB.below HA.out r3.bel)
  go_wp2_with (at_builtin; refine wpList_append_rb Try.underlying26 info5 ?_ (.tmp 79) (.tmp 83) ?_ _ _ _ ?_ r3 _ _ 2 _ ?_ b3 ?_ ?_; rfl; rfl; rfl; rfl; simp; intro a4 c4 W4 r4; clear x0 x1 x2 x3 x4 x5 x6 x7; obtain ⟨x0, x1, x2, x3, x4, x5, x6, x7⟩ := AtB.eight (AtB.below HA.out r4.bel); clear r3 b3)
  refine (bytes_next made2 (by omega) r4 _ (by omega)).mono ?_
  rintro e W5 ⟨a5, rfl, r5, b5⟩
  clear r4 x0 x1 x2 x3 x4 x5 x6 x7
  obtain ⟨x0, x1, x2, x3, x4, x5, x6, x7⟩ := AtB.eight (AtB.below HA.out r5.bel)
  go_wp2_with (first
    | (at_builtin; refine wpList_append_rb Try.underlying26 info5 ?_ (.tmp 85) (.tmp 89) ?_ _ _ _ ?_ r5 _ _ 2 _ ?_ b5 ?_ ?_; rfl; rfl; rfl; rfl; simp; intro a6 c6 W6 r6; clear x0 x1 x2 x3 x4 x5 x6 x7; obtain ⟨x0, x1, x2, x3, x4, x5, x6, x7⟩ := AtB.eight (AtB.below HA.out r6.bel); clear r5 b5)
    | (at_builtin; refine wpList_append_rb (w1 := w1) Try.underlying26 info5 ?_ (.tmp 91) (.tmp 98) ?_ (.slice a6 8 c6) 8 _ ?_ ⟨r6.own.alloc _, r6.bel.alloc r6.bel.size _⟩ _ _ 4 [ttl, pr, 0, 0] ?_ (bs_new 5 W6 #[.int .u8 ttl, .int .u8 pr, .int .u8 0, .int .u8 0] [ttl, pr, 0, 0] 4 _ rfl rfl rfl (by simp; omega) (by omega)) ?_ ?_; rfl; rfl; rfl; rfl; omega; intro a7 c7 W7 r7; clear x0 x1 x2 x3 x4 x5 x6 x7; obtain ⟨x0, x1, x2, x3, x4, x5, x6, x7⟩ := AtB.eight (AtB.below HA.out r7.bel); clear r6)
    | fail)
  refine (bytes_next made4 (by omega) r7 _ (by omega)).mono ?_
  rintro e W8 ⟨a8, rfl, r8, b8⟩
  clear r7 x0 x1 x2 x3 x4 x5 x6 x7
  obtain ⟨x0, x1, x2, x3, x4, x5, x6, x7⟩ := AtB.eight (AtB.below HA.out r8.bel)
  go_wp2_with (first
    | (at_builtin; refine wpList_append_rb Try.underlying26 info5 ?_ (.tmp 100) (.tmp 104) ?_ _ _ _ ?_ r8 _ _ 4 _ ?_ b8 ?_ ?_; rfl; rfl; rfl; rfl; simp; intro a9 c9 W9 r9; clear x0 x1 x2 x3 x4 x5 x6 x7; obtain ⟨x0, x1, x2, x3, x4, x5, x6, x7⟩ := AtB.eight (AtB.below HA.out r9.bel); clear r8 b8)
    | fail)
  obtain ⟨i0, hi, hz0, hz1, hz2⟩ := info_parts info5
  refine (bytes_next made4 (by omega) r9 _ (by omega)).mono ?_
  rintro e W10 ⟨a10, rfl, r10, b10⟩
  clear r9 x0 x1 x2 x3 x4 x5 x6 x7
  obtain ⟨x0, x1, x2, x3, x4, x5, x6, x7⟩ := AtB.eight (AtB.below HA.out r10.bel)
  go_wp2_with (first
    | (at_builtin; refine wpList_append_rb Try.underlying26 info5 ?_ (.tmp 106) (.tmp 110) ?_ _ _ _ ?_ r10 _ _ 4 _ ?_ b10 ?_ ?_; rfl; rfl; rfl; rfl; simp; intro a11 c11 W11 r11; clear x0 x1 x2 x3 x4 x5 x6 x7; obtain ⟨x0, x1, x2, x3, x4, x5, x6, x7⟩ := AtB.eight (AtB.below HA.out r11.bel); clear r10 b10)
    | (at_builtin; refine wpList_append_str rfl (.tmp 112) (.tmp 114) 26 9 rfl w1.heap.size 5 i0 Try.underlying26 Try.underlying9 hi hz0 hz1 hz2 (.slice a11 20 c11) 20 _ rfl r11.own os ho rfl (by omega) r11.bel.size ?_; intro a12 c12 W12 o12 g12; have b12 : Below w1.heap.size w1 W12 := r11.bel.grown g12 r11.bel.size (fun k hk => (World.ownsRow.lt r11.own k hk).1); clear x0 x1 x2 x3 x4 x5 x6 x7)
    | fail)
  have hX := pre_hb2 HF0.out hs hd
  have ho12 : W12.ownsRow w1.heap.size 5 1 (.slice a12 (20 + os.length) c12) (20 + os.length) ((hb tos id frag ttl pr src dst os data 0).map (Value.int .u8)) := by
    rw [← hX]; exact o12
  obtain ⟨g, rfl, hg1, hg2⟩ := own_some ho12 (by omega)
  have hE : EncS w1 W12 g (20 + os.length) c12 (hb tos id frag ttl pr src dst os data 0) := ⟨ho12, b12, hb_bd (chk := 0) HF0.out hs hd ho (by omega), by omega⟩
  have hcb := hchk_bd HF0.out hs hd ho
  have hdef : Hid (65535 - fld (wsum (hb tos id frag ttl pr src dst os data 0)) = hchk tos id frag ttl pr src dst os data) := rfl
  have hset : Hid _ := hb_set tos id frag ttl pr src dst os data (hchk tos id frag ttl pr src dst os data)
  clear hX ho12 o12 g12 r11 hg1 hg2 hi hz0 hz1 hz2
  generalize hCe : hchk tos id frag ttl pr src dst os data = C at *
  have HCe : Hid (hchk tos id frag ttl pr src dst os data = C) := hCe
  clear hCe
  have hcl : (hb tos id frag ttl pr src dst os data 0).length = 20 + os.length := hb_len ..
  generalize hb tos id frag ttl pr src dst os data 0 = B0 at *
  refine (rcheck_any _ hE.bs).mono ?_
  rintro e V1 ⟨rfl, rfl⟩
  rw [hdef.out]
  have y0 := hE.cell 10 (by omega)
  have y1 := hE.cell 11 (by omega)
  have z0 := hE.own.frozenAt 10
  have z1 := hE.own.frozenAt 11
  have hlI1 : (10 : Int) < 20 + os.length := by omega
  have hlI2 : (11 : Int) < 20 + os.length := by omega
  have HE : Hid _ := hE
  clear hE
  go_wp2
  rw [show IntKind.u16.wrap (C.tdiv 256) % 256 = C / 256 from by rw [Int.tdiv_eq_ediv_of_nonneg hcb.1, IntKind.wrap_u16]; omega]
  go_ret2
  have h2 := (HE.out.set 10 (C / 256) (by omega)).set 11 (C % 256) (by omega)
  rw [hset.out] at h2
  refine ⟨some ⟨g, 0, none⟩, c12, rfl, ?_, ?_⟩
  · unfold ipB
    rw [HCe.out]
    exact own_base1 h2.own (by omega)
  · exact hbw.trans (h2.bel.mono (by omega))
end Go.Proofs.Ytgonckbdkgiddaa.Ip
