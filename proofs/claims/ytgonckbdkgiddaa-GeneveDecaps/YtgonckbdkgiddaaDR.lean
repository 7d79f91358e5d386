/- Parts of the proof, in one text. -/
import Derived.Test.YtgonckbdkgiddaaL4w
import Derived.Deep.RegionHeld3
namespace Go.Proofs.Ytgonckbdkgiddaa
open Go.RowKit
set_option maxHeartbeats 1000000 in
theorem rnumc (w : World) (b off n cap : Nat) (zs : List Int) (h : BS w (some ⟨b, off, none⟩) n zs) (hcap : n ≤ cap) (t s : Int) (t' s' : Nat) (ht : t = t') (hs : s = s') (hs0 : 0 < s') (hs4 : s' ≤ 4) (hts : t' + s' ≤ n) :
    Calls Try.prog 62 #[.slice (some ⟨b, off, none⟩) n cap, .int .i64 t, .int .i64 s] w fun e w' => e = .returned (.int .i64 (num ((zs.drop t').take s'))) ∧ w' = w := by
  subst ht hs
  have h1 := (h.drop (by omega) t' (by omega)).take s' (by omega)
  have hnb := num_bd4 h1 hs4
  have H : Hid _ := h1
  have hne : ¬ cap = t' := by omega
  have hle : (t' : Int) + s' ≤ cap := by omega
  have hr := h.room
  have ht9 : (t' : Int) ≤ 281474976710656 := by omega
  have hs9 : (s' : Int) ≤ 4 := by omega
  have hw : wrap64 (num ((zs.drop t').take s')) = num ((zs.drop t').take s') := by unfold wrap64; omega
  clear h h1 hr
  go_enter Try.func62, Try.ntmps62
  go_wp2_with fail
  refine (rnum_any _ H.out (by omega)).mono ?_
  rintro e w1 ⟨rfl, hw1⟩
  subst hw1
  go_wp2
  go_ret
  exact ⟨rfl, rfl⟩
end Go.Proofs.Ytgonckbdkgiddaa

namespace Go.Proofs.Ytgonckbdkgiddaa
open Go.RowKit
set_option maxHeartbeats 2000000 in
theorem rdec_icmp_short (src dst : Int) (w : World) (a : Option Addr) (n cap : Nat) (hn : n < 8) :
    Calls Try.prog 29 #[.int .u32 src, .int .u32 dst, .int .i64 1, .slice a n cap] w fun e w' => e = .returned (.tuple #[.agg #[.int .i64 0, .int .i64 0, .int .i64 0, .int .u32 0, .int .i64 0, .int .i64 0, .bool false, .int .u32 0, .int .u32 0, .int .i64 0, .int .i64 0, .int .i64 0, .string ⟨#[]⟩, .string ⟨#[]⟩], .int .i64 20]) ∧ Below w.heap.size w w' := by
  have h1 : (n : Int) < 8 := by omega
  go_enter Try.func29, Try.ntmps29
  go_wp2_with fail
  refine bodyPost_ret (v := .tuple #[.agg #[.int .i64 0, .int .i64 0, .int .i64 0, .int .u32 0, .int .i64 0, .int .i64 0, .bool false, .int .u32 0, .int .u32 0, .int .i64 0, .int .i64 0, .int .i64 0, .string ⟨#[]⟩, .string ⟨#[]⟩], .int .i64 20]) ?_ rfl ⟨rfl, ?_⟩
  · simp [results, Try.results29, go_sem]
  · exact below1 w _
set_option maxHeartbeats 2000000 in
theorem rdec_udp_short (src dst : Int) (w : World) (a : Option Addr) (n cap : Nat) (hn : n < 8) :
    Calls Try.prog 29 #[.int .u32 src, .int .u32 dst, .int .i64 17, .slice a n cap] w fun e w' => e = .returned (.tuple #[.agg #[.int .i64 0, .int .i64 0, .int .i64 0, .int .u32 0, .int .i64 0, .int .i64 0, .bool false, .int .u32 0, .int .u32 0, .int .i64 0, .int .i64 0, .int .i64 0, .string ⟨#[]⟩, .string ⟨#[]⟩], .int .i64 20]) ∧ Below w.heap.size w w' := by
  have h1 : (n : Int) < 8 := by omega
  go_enter Try.func29, Try.ntmps29
  go_wp2_with fail
  refine bodyPost_ret (v := .tuple #[.agg #[.int .i64 0, .int .i64 0, .int .i64 0, .int .u32 0, .int .i64 0, .int .i64 0, .bool false, .int .u32 0, .int .u32 0, .int .i64 0, .int .i64 0, .int .i64 0, .string ⟨#[]⟩, .string ⟨#[]⟩], .int .i64 20]) ?_ rfl ⟨rfl, ?_⟩
  · simp [results, Try.results29, go_sem]
  · exact below1 w _
set_option maxHeartbeats 2000000 in
theorem rdec_tcp_short (src dst : Int) (w : World) (a : Option Addr) (n cap : Nat) (hn : n < 20) :
    Calls Try.prog 29 #[.int .u32 src, .int .u32 dst, .int .i64 6, .slice a n cap] w fun e w' => e = .returned (.tuple #[.agg #[.int .i64 0, .int .i64 0, .int .i64 0, .int .u32 0, .int .i64 0, .int .i64 0, .bool false, .int .u32 0, .int .u32 0, .int .i64 0, .int .i64 0, .int .i64 0, .string ⟨#[]⟩, .string ⟨#[]⟩], .int .i64 20]) ∧ Below w.heap.size w w' := by
  have h1 : (n : Int) < 20 := by omega
  go_enter Try.func29, Try.ntmps29
  go_wp2_with fail
  refine bodyPost_ret (v := .tuple #[.agg #[.int .i64 0, .int .i64 0, .int .i64 0, .int .u32 0, .int .i64 0, .int .i64 0, .bool false, .int .u32 0, .int .u32 0, .int .i64 0, .int .i64 0, .int .i64 0, .string ⟨#[]⟩, .string ⟨#[]⟩], .int .i64 20]) ?_ rfl ⟨rfl, ?_⟩
  · simp [results, Try.results29, go_sem]
  · exact below1 w _
set_option maxHeartbeats 2000000 in
theorem rdec_icmp_sum (src dst : Int) (w : World) (b off n cap : Nat) (zs : List Int) (h : BS w (some ⟨b, off, none⟩) n zs) (hn : 8 ≤ n) (hb : sumV src dst 1 zs ≠ 65535) :
    Calls Try.prog 29 #[.int .u32 src, .int .u32 dst, .int .i64 1, .slice (some ⟨b, off, none⟩) n cap] w fun e w' => e = .returned (.tuple #[.agg #[.int .i64 0, .int .i64 0, .int .i64 0, .int .u32 0, .int .i64 0, .int .i64 0, .bool false, .int .u32 0, .int .u32 0, .int .i64 0, .int .i64 0, .int .i64 0, .string ⟨#[]⟩, .string ⟨#[]⟩], .int .i64 30]) ∧ Below w.heap.size w w' := by
  have h1 : ¬ (n : Int) < 8 := by omega
  have hb1 : (fld (wsum zs) != 65535) = true := by
    have : sumV src dst 1 zs = fld (wsum zs) := by unfold sumV; rw [if_pos rfl]
    rw [this] at hb
    simp [hb]
  have H : Hid (BS (w.alloc (.cells #[.int .i64 0, .int .i64 0, .int .i64 0, .int .u32 0, .int .i64 0, .int .i64 0, .bool false, .int .u32 0, .int .u32 0, .int .i64 0, .int .i64 0, .int .i64 0, .string ⟨#[]⟩, .string ⟨#[]⟩] 48)) (some ⟨b, off, none⟩) n zs) := h.below (below1 w _)
  clear h hb
  obtain ⟨F, hF⟩ : ∃ F, fld (wsum zs) = F := ⟨_, rfl⟩
  rw [hF] at hb1
  go_enter Try.func29, Try.ntmps29
  go_wp2_with (first
    | (go_at_call 52; refine (rsum_any _ H.out).mono ?_; rintro e w' ⟨rfl, rfl⟩; rw [hF])
    | fail)
  refine bodyPost_ret (v := .tuple #[.agg #[.int .i64 0, .int .i64 0, .int .i64 0, .int .u32 0, .int .i64 0, .int .i64 0, .bool false, .int .u32 0, .int .u32 0, .int .i64 0, .int .i64 0, .int .i64 0, .string ⟨#[]⟩, .string ⟨#[]⟩], .int .i64 30]) ?_ rfl ⟨rfl, ?_⟩
  · simp [results, Try.results29, go_sem]
  · exact below1 w _
set_option maxHeartbeats 2000000 in
theorem rdec_udp_form (src dst : Int) (w : World) (b off n cap : Nat) (zs : List Int) (h : BS w (some ⟨b, off, none⟩) n zs) (hcap : n ≤ cap) (hn : 8 ≤ n) (hne : num ((zs.drop 4).take 2) ≠ n) :
    Calls Try.prog 29 #[.int .u32 src, .int .u32 dst, .int .i64 17, .slice (some ⟨b, off, none⟩) n cap] w fun e w' => e = .returned (.tuple #[.agg #[.int .i64 0, .int .i64 0, .int .i64 0, .int .u32 0, .int .i64 0, .int .i64 0, .bool false, .int .u32 0, .int .u32 0, .int .i64 0, .int .i64 0, .int .i64 0, .string ⟨#[]⟩, .string ⟨#[]⟩], .int .i64 21]) ∧ Below w.heap.size w w' := by
  have h1 : ¬ (n : Int) < 8 := by omega
  have hl := h.len
  have H : Hid (BS (w.alloc (.cells #[.int .i64 0, .int .i64 0, .int .i64 0, .int .u32 0, .int .i64 0, .int .i64 0, .bool false, .int .u32 0, .int .u32 0, .int .i64 0, .int .i64 0, .int .i64 0, .string ⟨#[]⟩, .string ⟨#[]⟩] 48)) (some ⟨b, off, none⟩) n zs) := h.below (below1 w _)
  obtain ⟨T4, hT4⟩ : ∃ x, num ((zs.drop 4).take 2) = x := ⟨_, rfl⟩
  rw [hT4] at hne
  have hb : (T4 != (n : Int)) = true := by simp [hne]
  clear hne h
  go_enter Try.func29, Try.ntmps29
  go_wp2_with (first
    | (go_at_call 62; refine (rnumc _ b off n cap zs H.out hcap 4 2 4 2 rfl rfl (by omega) (by omega) (by omega)).mono ?_; rintro e w' ⟨rfl, rfl⟩; rw [hT4])
    | fail)
  refine bodyPost_ret (v := .tuple #[.agg #[.int .i64 0, .int .i64 0, .int .i64 0, .int .u32 0, .int .i64 0, .int .i64 0, .bool false, .int .u32 0, .int .u32 0, .int .i64 0, .int .i64 0, .int .i64 0, .string ⟨#[]⟩, .string ⟨#[]⟩], .int .i64 21]) ?_ rfl ⟨rfl, ?_⟩
  · simp [results, Try.results29, go_sem]
  · exact below1 w _
set_option maxHeartbeats 2000000 in
theorem rdec_udp_sum (src dst : Int) (hs : 0 ≤ src ∧ src ≤ 4294967295) (ht : 0 ≤ dst ∧ dst ≤ 4294967295) (w : World) (b off n cap : Nat) (zs : List Int) (h : BS w (some ⟨b, off, none⟩) n zs) (hcap : n ≤ cap) (hn : 8 ≤ n) (he : num ((zs.drop 4).take 2) = n) (hz : num ((zs.drop 6).take 2) ≠ 0) (hb : sumV src dst 2 zs ≠ 65535) :
    Calls Try.prog 29 #[.int .u32 src, .int .u32 dst, .int .i64 17, .slice (some ⟨b, off, none⟩) n cap] w fun e w' => e = .returned (.tuple #[.agg #[.int .i64 0, .int .i64 0, .int .i64 0, .int .u32 0, .int .i64 0, .int .i64 0, .bool false, .int .u32 0, .int .u32 0, .int .i64 0, .int .i64 0, .int .i64 0, .string ⟨#[]⟩, .string ⟨#[]⟩], .int .i64 30]) ∧ Below w.heap.size w w' := by
  have h1 : ¬ (n : Int) < 8 := by omega
  have hl := h.len
  have H : Hid (BS (w.alloc (.cells #[.int .i64 0, .int .i64 0, .int .i64 0, .int .u32 0, .int .i64 0, .int .i64 0, .bool false, .int .u32 0, .int .u32 0, .int .i64 0, .int .i64 0, .int .i64 0, .string ⟨#[]⟩, .string ⟨#[]⟩] 48)) (some ⟨b, off, none⟩) n zs) := h.below (below1 w _)
  have hT4 := he
  obtain ⟨T6, hT6⟩ : ∃ x, num ((zs.drop 6).take 2) = x := ⟨_, rfl⟩
  rw [hT6] at hz
  have hz1 : (T6 == 0) = false := by simp [hz]
  have hp1 := psd_bd src dst 17 (n : Int) hs.1 ht.1
  have hp2 := fld_bd (wsum zs) (wsum_bd h.fits)
  obtain ⟨P, hP⟩ : ∃ P, psd src dst 17 (n : Int) = P := ⟨_, rfl⟩
  obtain ⟨F, hF⟩ : ∃ F, fld (wsum zs) = F := ⟨_, rfl⟩
  rw [hP] at hp1
  rw [hF] at hp2
  obtain ⟨A, hA⟩ : ∃ A, fld (P + F) = A := ⟨_, rfl⟩
  have hb1 : (A != 65535) = true := by
    have : sumV src dst 2 zs = A := by
      unfold sumV; rw [if_neg (by decide), show protoN 2 = 17 from rfl, h.len, hP, hF, hA]
    rw [this] at hb
    simp [hb]
  clear h hb hz he
  go_enter Try.func29, Try.ntmps29
  go_wp2_with fail
  refine (rnumc _ b off n cap zs H.out hcap 4 2 4 2 rfl rfl (by omega) (by omega) (by omega)).mono ?_
  rintro e w' ⟨rfl, hw'⟩
  rw [hw', hT4]
  clear hw'
  go_wp2_with fail
  refine (rnumc _ b off n cap zs H.out hcap 6 2 6 2 rfl rfl (by omega) (by omega) (by omega)).mono ?_
  rintro e w' ⟨rfl, hw'⟩
  rw [hw', hT6]
  clear hw'
  go_wp2_with fail
  refine (rpseudo_any _ src dst 17 n hs ht).mono ?_
  rintro e w' ⟨rfl, hw'⟩
  rw [hw', hP]
  clear hw'
  go_wp2_with fail
  refine (rsum_any _ H.out).mono ?_
  rintro e w' ⟨rfl, hw'⟩
  rw [hw', hF]
  clear hw'
  go_wp2_with fail
  refine (radd_any _ _ hp1.1 hp1.2 hp2.1 hp2.2 _).mono ?_
  rintro e w' ⟨rfl, hw'⟩
  rw [hw', hA]
  clear hw'
  go_wp2
  refine bodyPost_ret (v := .tuple #[.agg #[.int .i64 0, .int .i64 0, .int .i64 0, .int .u32 0, .int .i64 0, .int .i64 0, .bool false, .int .u32 0, .int .u32 0, .int .i64 0, .int .i64 0, .int .i64 0, .string ⟨#[]⟩, .string ⟨#[]⟩], .int .i64 30]) ?_ rfl ⟨rfl, ?_⟩
  · simp [results, Try.results29, go_sem]
  · exact below1 w _
set_option maxHeartbeats 2000000 in
theorem rdec_tcp_form (src dst : Int) (w : World) (b off n cap : Nat) (zs : List Int) (h : BS w (some ⟨b, off, none⟩) n zs) (hn : 20 ≤ n) (hne : zs.getD 12 0 / 16 * 4 < 20) :
    Calls Try.prog 29 #[.int .u32 src, .int .u32 dst, .int .i64 6, .slice (some ⟨b, off, none⟩) n cap] w fun e w' => e = .returned (.tuple #[.agg #[.int .i64 0, .int .i64 0, .int .i64 0, .int .u32 0, .int .i64 0, .int .i64 0, .bool false, .int .u32 0, .int .u32 0, .int .i64 0, .int .i64 0, .int .i64 0, .string ⟨#[]⟩, .string ⟨#[]⟩], .int .i64 21]) ∧ Below w.heap.size w w' := by
  have h1 : ¬ (n : Int) < 20 := by omega
  have hl := h.len
  have hf12 := h.fits 12
  have H : Hid (BS (w.alloc (.cells #[.int .i64 0, .int .i64 0, .int .i64 0, .int .u32 0, .int .i64 0, .int .i64 0, .bool false, .int .u32 0, .int .u32 0, .int .i64 0, .int .i64 0, .int .i64 0, .string ⟨#[]⟩, .string ⟨#[]⟩] 48)) (some ⟨b, off, none⟩) n zs) := h.below (below1 w _)
  have hc : (w.alloc (.cells #[.int .i64 0, .int .i64 0, .int .i64 0, .int .u32 0, .int .i64 0, .int .i64 0, .bool false, .int .u32 0, .int .u32 0, .int .i64 0, .int .i64 0, .int .i64 0, .string ⟨#[]⟩, .string ⟨#[]⟩] 48)).cell? ⟨b, off + 12, none⟩ = some (.int .u8 (zs.getD 12 0)) := by
    rcases H.out.cells with h0 | ⟨b', off', e, hc⟩
    · omega
    · cases e; exact hc 12 (by omega)
  generalize zs.getD 12 0 = T at *
  have hq : IntKind.u8.wrap (T.tdiv 16) = T / 16 := by rw [Int.tdiv_eq_ediv_of_nonneg hf12.1, IntKind.wrap_u8]; omega
  have hne2 : 4 * (T / 16) < 20 := by omega
  clear h H
  go_enter Try.func29, Try.ntmps29
  go_wp2_with fail
  refine bodyPost_ret (v := .tuple #[.agg #[.int .i64 0, .int .i64 0, .int .i64 0, .int .u32 0, .int .i64 0, .int .i64 0, .bool false, .int .u32 0, .int .u32 0, .int .i64 0, .int .i64 0, .int .i64 0, .string ⟨#[]⟩, .string ⟨#[]⟩], .int .i64 21]) ?_ rfl ⟨rfl, ?_⟩
  · simp [results, Try.results29, go_sem]
  · exact below1 w _
set_option maxHeartbeats 2000000 in
theorem rdec_tcp_big (src dst : Int) (w : World) (b off n cap : Nat) (zs : List Int) (h : BS w (some ⟨b, off, none⟩) n zs) (hn : 20 ≤ n) (hle : 20 ≤ zs.getD 12 0 / 16 * 4) (hne : (n : Int) < zs.getD 12 0 / 16 * 4) :
    Calls Try.prog 29 #[.int .u32 src, .int .u32 dst, .int .i64 6, .slice (some ⟨b, off, none⟩) n cap] w fun e w' => e = .returned (.tuple #[.agg #[.int .i64 0, .int .i64 0, .int .i64 0, .int .u32 0, .int .i64 0, .int .i64 0, .bool false, .int .u32 0, .int .u32 0, .int .i64 0, .int .i64 0, .int .i64 0, .string ⟨#[]⟩, .string ⟨#[]⟩], .int .i64 20]) ∧ Below w.heap.size w w' := by
  have h1 : ¬ (n : Int) < 20 := by omega
  have hl := h.len
  have hf12 := h.fits 12
  have H : Hid (BS (w.alloc (.cells #[.int .i64 0, .int .i64 0, .int .i64 0, .int .u32 0, .int .i64 0, .int .i64 0, .bool false, .int .u32 0, .int .u32 0, .int .i64 0, .int .i64 0, .int .i64 0, .string ⟨#[]⟩, .string ⟨#[]⟩] 48)) (some ⟨b, off, none⟩) n zs) := h.below (below1 w _)
  have hc : (w.alloc (.cells #[.int .i64 0, .int .i64 0, .int .i64 0, .int .u32 0, .int .i64 0, .int .i64 0, .bool false, .int .u32 0, .int .u32 0, .int .i64 0, .int .i64 0, .int .i64 0, .string ⟨#[]⟩, .string ⟨#[]⟩] 48)).cell? ⟨b, off + 12, none⟩ = some (.int .u8 (zs.getD 12 0)) := by
    rcases H.out.cells with h0 | ⟨b', off', e, hc⟩
    · omega
    · cases e; exact hc 12 (by omega)
  generalize zs.getD 12 0 = T at *
  have hq : IntKind.u8.wrap (T.tdiv 16) = T / 16 := by rw [Int.tdiv_eq_ediv_of_nonneg hf12.1, IntKind.wrap_u8]; omega
  have hne2 : ¬ 4 * (T / 16) < 20 := by omega
  have hne3 : (n : Int) < 4 * (T / 16) := by omega
  clear h H
  go_enter Try.func29, Try.ntmps29
  go_wp2_with fail
  refine bodyPost_ret (v := .tuple #[.agg #[.int .i64 0, .int .i64 0, .int .i64 0, .int .u32 0, .int .i64 0, .int .i64 0, .bool false, .int .u32 0, .int .u32 0, .int .i64 0, .int .i64 0, .int .i64 0, .string ⟨#[]⟩, .string ⟨#[]⟩], .int .i64 20]) ?_ rfl ⟨rfl, ?_⟩
  · simp [results, Try.results29, go_sem]
  · exact below1 w _
set_option maxHeartbeats 2000000 in
theorem rdec_tcp_sum (src dst : Int) (hs : 0 ≤ src ∧ src ≤ 4294967295) (ht : 0 ≤ dst ∧ dst ≤ 4294967295) (w : World) (b off n cap : Nat) (zs : List Int) (h : BS w (some ⟨b, off, none⟩) n zs) (hn : 20 ≤ n) (hle : 20 ≤ zs.getD 12 0 / 16 * 4) (hne : zs.getD 12 0 / 16 * 4 ≤ (n : Int)) (hb : sumV src dst 3 zs ≠ 65535) :
    Calls Try.prog 29 #[.int .u32 src, .int .u32 dst, .int .i64 6, .slice (some ⟨b, off, none⟩) n cap] w fun e w' => e = .returned (.tuple #[.agg #[.int .i64 0, .int .i64 0, .int .i64 0, .int .u32 0, .int .i64 0, .int .i64 0, .bool false, .int .u32 0, .int .u32 0, .int .i64 0, .int .i64 0, .int .i64 0, .string ⟨#[]⟩, .string ⟨#[]⟩], .int .i64 30]) ∧ Below w.heap.size w w' := by
  have hp1 := psd_bd src dst 6 (n : Int) hs.1 ht.1
  have hp2 := fld_bd (wsum zs) (wsum_bd h.fits)
  obtain ⟨P, hP⟩ : ∃ P, psd src dst 6 (n : Int) = P := ⟨_, rfl⟩
  obtain ⟨F, hF⟩ : ∃ F, fld (wsum zs) = F := ⟨_, rfl⟩
  rw [hP] at hp1
  rw [hF] at hp2
  obtain ⟨A, hA⟩ : ∃ A, fld (P + F) = A := ⟨_, rfl⟩
  have hb1 : (A != 65535) = true := by
    have : sumV src dst 3 zs = A := by
      unfold sumV; rw [if_neg (by decide), show protoN 3 = 6 from rfl, h.len, hP, hF, hA]
    rw [this] at hb
    simp [hb]
  have h1 : ¬ (n : Int) < 20 := by omega
  have hl := h.len
  have hf12 := h.fits 12
  have H : Hid (BS (w.alloc (.cells #[.int .i64 0, .int .i64 0, .int .i64 0, .int .u32 0, .int .i64 0, .int .i64 0, .bool false, .int .u32 0, .int .u32 0, .int .i64 0, .int .i64 0, .int .i64 0, .string ⟨#[]⟩, .string ⟨#[]⟩] 48)) (some ⟨b, off, none⟩) n zs) := h.below (below1 w _)
  have hc : (w.alloc (.cells #[.int .i64 0, .int .i64 0, .int .i64 0, .int .u32 0, .int .i64 0, .int .i64 0, .bool false, .int .u32 0, .int .u32 0, .int .i64 0, .int .i64 0, .int .i64 0, .string ⟨#[]⟩, .string ⟨#[]⟩] 48)).cell? ⟨b, off + 12, none⟩ = some (.int .u8 (zs.getD 12 0)) := by
    rcases H.out.cells with h0 | ⟨b', off', e, hc⟩
    · omega
    · cases e; exact hc 12 (by omega)
  generalize zs.getD 12 0 = T at *
  have hq : IntKind.u8.wrap (T.tdiv 16) = T / 16 := by rw [Int.tdiv_eq_ediv_of_nonneg hf12.1, IntKind.wrap_u8]; omega
  have hne2 : ¬ 4 * (T / 16) < 20 := by omega
  have hne3 : ¬ (n : Int) < 4 * (T / 16) := by omega
  clear h hb hle hne
  go_enter Try.func29, Try.ntmps29
  go_wp2_with (first
    | (go_at_call 51; refine (rpseudo_any _ src dst _ _ hs ht).mono ?_; rintro e w' ⟨rfl, rfl⟩; rw [hP])
    | (go_at_call 52; refine (rsum_any _ H.out).mono ?_; rintro e w' ⟨rfl, rfl⟩; rw [hF])
    | (go_at_call 50; refine (radd_any _ _ hp1.1 hp1.2 hp2.1 hp2.2 _).mono ?_; rintro e w' ⟨rfl, rfl⟩; rw [hA])
    | fail)
  refine bodyPost_ret (v := .tuple #[.agg #[.int .i64 0, .int .i64 0, .int .i64 0, .int .u32 0, .int .i64 0, .int .i64 0, .bool false, .int .u32 0, .int .u32 0, .int .i64 0, .int .i64 0, .int .i64 0, .string ⟨#[]⟩, .string ⟨#[]⟩], .int .i64 30]) ?_ rfl ⟨rfl, ?_⟩
  · simp [results, Try.results29, go_sem]
  · exact below1 w _
end Go.Proofs.Ytgonckbdkgiddaa

namespace Go.Proofs.Ytgonckbdkgiddaa
open Go.RowKit
set_option linter.unusedSimpArgs false
set_option maxRecDepth 20000 in
set_option maxHeartbeats 8000000 in
theorem rdec_udp (src dst : Int) (hs : 0 ≤ src ∧ src ≤ 4294967295) (ht : 0 ≤ dst ∧ dst ≤ 4294967295) (w : World) (b off : Nat) (n cap : Nat) (zs : List Int) (h : BS w (some ⟨b, off, none⟩) n zs) (hcap : n ≤ cap) (hn : 8 ≤ n) (hc8 : ¬ cap = 8) (sp dp : Int) (hsp : num ((zs.drop 0).take 2) = sp) (hdp : num ((zs.drop 2).take 2) = dp) (h4e : num ((zs.drop 4).take 2) = (n : Int)) (T6 : Int) (h6 : num ((zs.drop 6).take 2) = T6) (hz : (T6 == 0) = false) (P F : Int) (hP : psd src dst 17 (n : Int) = P) (hF : fld (wsum zs) = F) (hA : fld (P + F) = 65535) :
    Calls Try.prog 29 #[.int .u32 src, .int .u32 dst, .int .i64 17, .slice (some ⟨b, off, none⟩) n cap] w fun e w' => e = .returned (.tuple #[.agg #[.int .i64 2, .int .i64 0, .int .i64 0, .int .u32 0, .int .i64 sp, .int .i64 dp, .bool false, .int .u32 0, .int .u32 0, .int .i64 0, .int .i64 0, .int .i64 0, .string ⟨#[]⟩, .string (strOfNums (zs.drop 8))], .int .i64 0]) ∧ Below w.heap.size w w' := by
  have h1 : ¬ (n : Int) < 8 := by omega
  have h4 : (8 : Int) ≤ n := by omega
  have h5 : (n : Int) ≤ cap := by omega
  have H0 : Hid (BS w (some ⟨b, off, none⟩) n zs) := h
  have H : Hid (BS (w.alloc (.cells #[.int .i64 0, .int .i64 0, .int .i64 0, .int .u32 0, .int .i64 0, .int .i64 0, .bool false, .int .u32 0, .int .u32 0, .int .i64 0, .int .i64 0, .int .i64 0, .string ⟨#[]⟩, .string ⟨#[]⟩] 48)) (some ⟨b, off, none⟩) n zs) := h.below (below1 w _)
  have hp1 := psd_bd src dst 17 (n : Int) hs.1 ht.1
  have hp2 := fld_bd (wsum zs) (wsum_bd h.fits)
  rw [hP] at hp1
  rw [hF] at hp2
  clear h
  go_enter Try.func29, Try.ntmps29
  go_wp2_with fail
  refine (rnumc _ b off n cap zs H.out hcap 4 2 4 2 rfl rfl (by omega) (by omega) (by omega)).mono ?_
  rintro e w' ⟨rfl, hw'⟩
  rw [hw', h4e]
  clear hw'
  go_wp2_with fail
  refine (rnumc _ b off n cap zs H.out hcap 6 2 6 2 rfl rfl (by omega) (by omega) (by omega)).mono ?_
  rintro e w' ⟨rfl, hw'⟩
  rw [hw', h6]
  clear hw'
  go_wp2_with fail
  refine (rpseudo_any _ src dst 17 (n : Int) hs ht).mono ?_
  rintro e w' ⟨rfl, hw'⟩
  rw [hw', hP]
  clear hw'
  go_wp2_with fail
  refine (rsum_any _ H.out).mono ?_
  rintro e w' ⟨rfl, hw'⟩
  rw [hw', hF]
  clear hw'
  go_wp2_with fail
  refine (radd_any _ _ hp1.1 hp1.2 hp2.1 hp2.2 _).mono ?_
  rintro e w' ⟨rfl, hw'⟩
  rw [hw', hA]
  clear hw'
  go_wp2_with fail
  refine wp_region_held_drew (S := (fun W => BS W (some ⟨b, off, none⟩) n zs)) (by kernel_rfl) H.out.drew (fun hHeld => ?_)
  refine wpAnyH_take (i := 0) (v := ?_) rfl (by kernel_rfl) (by kernel_rfl) (by kernel_rfl) (fun _ _ _ h => h) (Or.inl ⟨by rfl, ?_⟩) (by assumption) ?_
  rotate_left
  · (intro w hSw; (try dsimp only at hSw); go_simp; try with_reducible rfl)
  try simp only [List.getElem_toArray, List.getElem_cons_zero, List.getElem_cons_succ, Act.put, List.setIfInBounds_toArray, List.set_cons_zero, List.set_cons_succ]
  refine wpAnyH_take (i := 2) (v := ?_) rfl (by kernel_rfl) (by kernel_rfl) (by kernel_rfl) (fun _ _ _ h => h) (Or.inl ⟨by rfl, ?_⟩) (by assumption) ?_
  rotate_left
  · (intro w hSw; (try dsimp only at hSw); go_simp; try with_reducible rfl)
  try simp only [List.getElem_toArray, List.getElem_cons_zero, List.getElem_cons_succ, Act.put, List.setIfInBounds_toArray, List.set_cons_zero, List.set_cons_succ]
  refine wpAnyH_take (i := 4) (v := ?_) rfl (by kernel_rfl) (by kernel_rfl) (by kernel_rfl) (fun _ _ _ h => h) (Or.inl ⟨by rfl, ?_⟩) (by assumption) ?_
  rotate_left
  · (intro w hSw; (try dsimp only at hSw); go_simp; try with_reducible rfl)
  try simp only [List.getElem_toArray, List.getElem_cons_zero, List.getElem_cons_succ, Act.put, List.setIfInBounds_toArray, List.set_cons_zero, List.set_cons_succ]
  refine wpAnyH_take (i := 5) (v := ?_) rfl (by kernel_rfl) (by kernel_rfl) (by kernel_rfl) (fun _ _ _ h => h) (Or.inl ⟨by rfl, ?_⟩) (by assumption) ?_
  rotate_left
  · (intro w hSw; (try dsimp only at hSw); go_simp; try with_reducible rfl)
  try simp only [List.getElem_toArray, List.getElem_cons_zero, List.getElem_cons_succ, Act.put, List.setIfInBounds_toArray, List.set_cons_zero, List.set_cons_succ]
  refine wpAnyH_take (i := 6) (v := ?_) rfl (by kernel_rfl) (by kernel_rfl) (by kernel_rfl) (fun _ _ _ h => h) (Or.inl ⟨by rfl, ?_⟩) (by assumption) ?_
  rotate_left
  · (intro w hSw; (try dsimp only at hSw); go_simp; try with_reducible rfl)
  try simp only [List.getElem_toArray, List.getElem_cons_zero, List.getElem_cons_succ, Act.put, List.setIfInBounds_toArray, List.set_cons_zero, List.set_cons_succ]
  refine wpAnyH_take (i := 7) (v := .string (strOfNums (zs.drop 8))) rfl (by kernel_rfl) (by kernel_rfl) (by kernel_rfl) (fun _ _ _ h => h) (Or.inl ⟨by rfl, fun W hW => by have hcv := run_conv_bs (P := Try.prog) (w := W) (cap - 8) (hW.drop (by omega) 8 (by omega)) 26 9 5 Try.underlying26 Try.underlying5 Try.underlying9; go_simp⟩) (by assumption) ?_
  try simp only [List.getElem_toArray, List.getElem_cons_zero, List.getElem_cons_succ, Act.put, List.setIfInBounds_toArray, List.set_cons_zero, List.set_cons_succ]
  refine wpAnyH_ready (rs := [1]) (by kernel_rfl) (by simp) ?_
  refine AllReadyH.cons (o := _) rfl (fun K hK => ?_) AllReadyH.nil
  go_simp
  refine (rnumc _ b off n cap zs H.out.drew hcap 0 2 0 2 rfl rfl (by omega) (by omega) (by omega)).mono ?_
  rintro e w' ⟨rfl, hw'⟩
  rw [hw', hsp]
  clear hw'
  refine hK _ _ H.out.drew (fun hHeld => ?_)
  try simp only [List.getElem_toArray, List.getElem_cons_zero, List.getElem_cons_succ, Act.put, List.setIfInBounds_toArray, List.set_cons_zero, List.set_cons_succ]
  refine wpAnyH_ready (rs := [3]) (by kernel_rfl) (by simp) ?_
  refine AllReadyH.cons (o := _) rfl (fun K hK => ?_) AllReadyH.nil
  go_simp
  refine (rnumc _ b off n cap zs H.out.drew hcap 2 2 2 2 rfl rfl (by omega) (by omega) (by omega)).mono ?_
  rintro e w' ⟨rfl, hw'⟩
  rw [hw', hdp]
  clear hw'
  refine hK _ _ H.out.drew (fun hHeld => ?_)
  try simp only [List.getElem_toArray, List.getElem_cons_zero, List.getElem_cons_succ, Act.put, List.setIfInBounds_toArray, List.set_cons_zero, List.set_cons_succ]
  refine wpAnyH_take (i := 8) (v := ?_) rfl (by kernel_rfl) (by kernel_rfl) (by kernel_rfl) (fun _ _ _ h => h) (Or.inl ⟨by rfl, ?_⟩) (by assumption) ?_
  rotate_left
  · (intro w hSw; (try dsimp only at hSw); go_simp; try with_reducible rfl)
  try simp only [List.getElem_toArray, List.getElem_cons_zero, List.getElem_cons_succ, Act.put, List.setIfInBounds_toArray, List.set_cons_zero, List.set_cons_succ]
  refine wpAnyH_ready (rs := [9]) (by kernel_rfl) (by simp) ?_
  refine AllReadyH.cons (o := _) rfl (fun K hK => ?_) AllReadyH.nil
  go_simp
  refine hK _ _ (H0.out.below (below1 w _)).drew (fun hHeld => ?_)
  try simp only [List.getElem_toArray, List.getElem_cons_zero, List.getElem_cons_succ, Act.put, List.setIfInBounds_toArray, List.set_cons_zero, List.set_cons_succ]
  refine wpAnyH_ready (rs := [10]) (by kernel_rfl) (by simp) ?_
  refine AllReadyH.cons (o := _) rfl (fun K hK => ?_) AllReadyH.nil
  go_simp
  refine hK _ _ (H0.out.below (below1 w _)).drew (fun hHeld => ?_)
  refine wpAnyH_done (by kernel_rfl) ?_ _
  try simp only [List.getElem_toArray, List.getElem_cons_zero, List.getElem_cons_succ, Act.put, List.setIfInBounds_toArray, List.set_cons_zero, List.set_cons_succ]
  go_wp2
  refine bodyPost_ret (v := .tuple #[.agg #[.int .i64 2, .int .i64 0, .int .i64 0, .int .u32 0, .int .i64 sp, .int .i64 dp, .bool false, .int .u32 0, .int .u32 0, .int .i64 0, .int .i64 0, .int .i64 0, .string ⟨#[]⟩, .string (strOfNums (zs.drop 8))], .int .i64 0]) ?_ rfl ⟨rfl, ?_⟩
  · simp [results, Try.results29, go_sem]
  · exact (below1 w _).drew
set_option maxRecDepth 20000 in
set_option maxHeartbeats 8000000 in
theorem rdec_udp8 (src dst : Int) (hs : 0 ≤ src ∧ src ≤ 4294967295) (ht : 0 ≤ dst ∧ dst ≤ 4294967295) (w : World) (b off : Nat) (zs : List Int) (h : BS w (some ⟨b, off, none⟩) 8 zs) (sp dp : Int) (hsp : num ((zs.drop 0).take 2) = sp) (hdp : num ((zs.drop 2).take 2) = dp) (h4e : num ((zs.drop 4).take 2) = 8) (T6 : Int) (h6 : num ((zs.drop 6).take 2) = T6) (hz : (T6 == 0) = false) (P F : Int) (hP : psd src dst 17 8 = P) (hF : fld (wsum zs) = F) (hA : fld (P + F) = 65535) :
    Calls Try.prog 29 #[.int .u32 src, .int .u32 dst, .int .i64 17, .slice (some ⟨b, off, none⟩) 8 8] w fun e w' => e = .returned (.tuple #[.agg #[.int .i64 2, .int .i64 0, .int .i64 0, .int .u32 0, .int .i64 sp, .int .i64 dp, .bool false, .int .u32 0, .int .u32 0, .int .i64 0, .int .i64 0, .int .i64 0, .string ⟨#[]⟩, .string (strOfNums [])], .int .i64 0]) ∧ Below w.heap.size w w' := by
  have H0 : Hid (BS w (some ⟨b, off, none⟩) 8 zs) := h
  have H : Hid (BS (w.alloc (.cells #[.int .i64 0, .int .i64 0, .int .i64 0, .int .u32 0, .int .i64 0, .int .i64 0, .bool false, .int .u32 0, .int .u32 0, .int .i64 0, .int .i64 0, .int .i64 0, .string ⟨#[]⟩, .string ⟨#[]⟩] 48)) (some ⟨b, off, none⟩) 8 zs) := h.below (below1 w _)
  have hp1 := psd_bd src dst 17 8 hs.1 ht.1
  have hp2 := fld_bd (wsum zs) (wsum_bd h.fits)
  rw [hP] at hp1
  rw [hF] at hp2
  clear h
  go_enter Try.func29, Try.ntmps29
  go_wp2_with fail
  refine (rnumc _ b off 8 8 zs H.out (Nat.le_refl _) 4 2 4 2 rfl rfl (by omega) (by omega) (by omega)).mono ?_
  rintro e w' ⟨rfl, hw'⟩
  rw [hw', h4e]
  clear hw'
  go_wp2_with fail
  refine (rnumc _ b off 8 8 zs H.out (Nat.le_refl _) 6 2 6 2 rfl rfl (by omega) (by omega) (by omega)).mono ?_
  rintro e w' ⟨rfl, hw'⟩
  rw [hw', h6]
  clear hw'
  go_wp2_with fail
  refine (rpseudo_any _ src dst 17 8 hs ht).mono ?_
  rintro e w' ⟨rfl, hw'⟩
  rw [hw', hP]
  clear hw'
  go_wp2_with fail
  refine (rsum_any _ H.out).mono ?_
  rintro e w' ⟨rfl, hw'⟩
  rw [hw', hF]
  clear hw'
  go_wp2_with fail
  refine (radd_any _ _ hp1.1 hp1.2 hp2.1 hp2.2 _).mono ?_
  rintro e w' ⟨rfl, hw'⟩
  rw [hw', hA]
  clear hw'
  go_wp2_with fail
  refine wp_region_held_drew (S := (fun W => BS W (some ⟨b, off, none⟩) 8 zs)) (by kernel_rfl) H.out.drew (fun hHeld => ?_)
  refine wpAnyH_take (i := 0) (v := ?_) rfl (by kernel_rfl) (by kernel_rfl) (by kernel_rfl) (fun _ _ _ h => h) (Or.inl ⟨by rfl, ?_⟩) (by assumption) ?_
  rotate_left
  · (intro w hSw; (try dsimp only at hSw); go_simp; try with_reducible rfl)
  try simp only [List.getElem_toArray, List.getElem_cons_zero, List.getElem_cons_succ, Act.put, List.setIfInBounds_toArray, List.set_cons_zero, List.set_cons_succ]
  refine wpAnyH_take (i := 2) (v := ?_) rfl (by kernel_rfl) (by kernel_rfl) (by kernel_rfl) (fun _ _ _ h => h) (Or.inl ⟨by rfl, ?_⟩) (by assumption) ?_
  rotate_left
  · (intro w hSw; (try dsimp only at hSw); go_simp; try with_reducible rfl)
  try simp only [List.getElem_toArray, List.getElem_cons_zero, List.getElem_cons_succ, Act.put, List.setIfInBounds_toArray, List.set_cons_zero, List.set_cons_succ]
  refine wpAnyH_take (i := 4) (v := ?_) rfl (by kernel_rfl) (by kernel_rfl) (by kernel_rfl) (fun _ _ _ h => h) (Or.inl ⟨by rfl, ?_⟩) (by assumption) ?_
  rotate_left
  · (intro w hSw; (try dsimp only at hSw); go_simp; try with_reducible rfl)
  try simp only [List.getElem_toArray, List.getElem_cons_zero, List.getElem_cons_succ, Act.put, List.setIfInBounds_toArray, List.set_cons_zero, List.set_cons_succ]
  refine wpAnyH_take (i := 5) (v := ?_) rfl (by kernel_rfl) (by kernel_rfl) (by kernel_rfl) (fun _ _ _ h => h) (Or.inl ⟨by rfl, ?_⟩) (by assumption) ?_
  rotate_left
  · (intro w hSw; (try dsimp only at hSw); go_simp; try with_reducible rfl)
  try simp only [List.getElem_toArray, List.getElem_cons_zero, List.getElem_cons_succ, Act.put, List.setIfInBounds_toArray, List.set_cons_zero, List.set_cons_succ]
  refine wpAnyH_take (i := 6) (v := ?_) rfl (by kernel_rfl) (by kernel_rfl) (by kernel_rfl) (fun _ _ _ h => h) (Or.inl ⟨by rfl, ?_⟩) (by assumption) ?_
  rotate_left
  · (intro w hSw; (try dsimp only at hSw); go_simp; try with_reducible rfl)
  try simp only [List.getElem_toArray, List.getElem_cons_zero, List.getElem_cons_succ, Act.put, List.setIfInBounds_toArray, List.set_cons_zero, List.set_cons_succ]
  refine wpAnyH_take (i := 7) (v := .string (strOfNums [])) rfl (by kernel_rfl) (by kernel_rfl) (by kernel_rfl) (fun _ _ _ h => h) (Or.inl ⟨by rfl, fun W hW => by have hcv := run_conv_bs (P := Try.prog) (w := W) (0) (BS.empty (some ⟨b, off, none⟩)) 26 9 5 Try.underlying26 Try.underlying5 Try.underlying9; go_simp⟩) (by assumption) ?_
  try simp only [List.getElem_toArray, List.getElem_cons_zero, List.getElem_cons_succ, Act.put, List.setIfInBounds_toArray, List.set_cons_zero, List.set_cons_succ]
  refine wpAnyH_ready (rs := [1]) (by kernel_rfl) (by simp) ?_
  refine AllReadyH.cons (o := _) rfl (fun K hK => ?_) AllReadyH.nil
  go_simp
  refine (rnumc _ b off 8 8 zs H.out.drew (Nat.le_refl _) 0 2 0 2 rfl rfl (by omega) (by omega) (by omega)).mono ?_
  rintro e w' ⟨rfl, hw'⟩
  rw [hw', hsp]
  clear hw'
  refine hK _ _ H.out.drew (fun hHeld => ?_)
  try simp only [List.getElem_toArray, List.getElem_cons_zero, List.getElem_cons_succ, Act.put, List.setIfInBounds_toArray, List.set_cons_zero, List.set_cons_succ]
  refine wpAnyH_ready (rs := [3]) (by kernel_rfl) (by simp) ?_
  refine AllReadyH.cons (o := _) rfl (fun K hK => ?_) AllReadyH.nil
  go_simp
  refine (rnumc _ b off 8 8 zs H.out.drew (Nat.le_refl _) 2 2 2 2 rfl rfl (by omega) (by omega) (by omega)).mono ?_
  rintro e w' ⟨rfl, hw'⟩
  rw [hw', hdp]
  clear hw'
  refine hK _ _ H.out.drew (fun hHeld => ?_)
  try simp only [List.getElem_toArray, List.getElem_cons_zero, List.getElem_cons_succ, Act.put, List.setIfInBounds_toArray, List.set_cons_zero, List.set_cons_succ]
  refine wpAnyH_take (i := 8) (v := ?_) rfl (by kernel_rfl) (by kernel_rfl) (by kernel_rfl) (fun _ _ _ h => h) (Or.inl ⟨by rfl, ?_⟩) (by assumption) ?_
  rotate_left
  · (intro w hSw; (try dsimp only at hSw); go_simp; try with_reducible rfl)
  try simp only [List.getElem_toArray, List.getElem_cons_zero, List.getElem_cons_succ, Act.put, List.setIfInBounds_toArray, List.set_cons_zero, List.set_cons_succ]
  refine wpAnyH_ready (rs := [9]) (by kernel_rfl) (by simp) ?_
  refine AllReadyH.cons (o := _) rfl (fun K hK => ?_) AllReadyH.nil
  go_simp
  refine hK _ _ (H0.out.below (below1 w _)).drew (fun hHeld => ?_)
  try simp only [List.getElem_toArray, List.getElem_cons_zero, List.getElem_cons_succ, Act.put, List.setIfInBounds_toArray, List.set_cons_zero, List.set_cons_succ]
  refine wpAnyH_ready (rs := [10]) (by kernel_rfl) (by simp) ?_
  refine AllReadyH.cons (o := _) rfl (fun K hK => ?_) AllReadyH.nil
  go_simp
  refine hK _ _ (H0.out.below (below1 w _)).drew (fun hHeld => ?_)
  refine wpAnyH_done (by kernel_rfl) ?_ _
  try simp only [List.getElem_toArray, List.getElem_cons_zero, List.getElem_cons_succ, Act.put, List.setIfInBounds_toArray, List.set_cons_zero, List.set_cons_succ]
  go_wp2
  refine bodyPost_ret (v := .tuple #[.agg #[.int .i64 2, .int .i64 0, .int .i64 0, .int .u32 0, .int .i64 sp, .int .i64 dp, .bool false, .int .u32 0, .int .u32 0, .int .i64 0, .int .i64 0, .int .i64 0, .string ⟨#[]⟩, .string (strOfNums [])], .int .i64 0]) ?_ rfl ⟨rfl, ?_⟩
  · simp [results, Try.results29, go_sem]
  · exact (below1 w _).drew
end Go.Proofs.Ytgonckbdkgiddaa

namespace Go.Proofs.Ytgonckbdkgiddaa
open Go.RowKit
set_option linter.unusedSimpArgs false
set_option maxRecDepth 20000 in
set_option maxHeartbeats 8000000 in
theorem rdec_udp0 (src dst : Int) (w : World) (b off : Nat) (n cap : Nat) (zs : List Int) (h : BS w (some ⟨b, off, none⟩) n zs) (hcap : n ≤ cap) (hn : 8 ≤ n) (hc8 : ¬ cap = 8) (sp dp : Int) (hsp : num ((zs.drop 0).take 2) = sp) (hdp : num ((zs.drop 2).take 2) = dp) (h4e : num ((zs.drop 4).take 2) = (n : Int)) (h6 : num ((zs.drop 6).take 2) = 0) :
    Calls Try.prog 29 #[.int .u32 src, .int .u32 dst, .int .i64 17, .slice (some ⟨b, off, none⟩) n cap] w fun e w' => e = .returned (.tuple #[.agg #[.int .i64 2, .int .i64 0, .int .i64 0, .int .u32 0, .int .i64 sp, .int .i64 dp, .bool true, .int .u32 0, .int .u32 0, .int .i64 0, .int .i64 0, .int .i64 0, .string ⟨#[]⟩, .string (strOfNums (zs.drop 8))], .int .i64 0]) ∧ Below w.heap.size w w' := by
  have h1 : ¬ (n : Int) < 8 := by omega
  have h4 : (8 : Int) ≤ n := by omega
  have h5 : (n : Int) ≤ cap := by omega
  have H0 : Hid (BS w (some ⟨b, off, none⟩) n zs) := h
  have H : Hid (BS (w.alloc (.cells #[.int .i64 0, .int .i64 0, .int .i64 0, .int .u32 0, .int .i64 0, .int .i64 0, .bool false, .int .u32 0, .int .u32 0, .int .i64 0, .int .i64 0, .int .i64 0, .string ⟨#[]⟩, .string ⟨#[]⟩] 48)) (some ⟨b, off, none⟩) n zs) := h.below (below1 w _)
  clear h
  go_enter Try.func29, Try.ntmps29
  go_wp2_with fail
  refine (rnumc _ b off n cap zs H.out hcap 4 2 4 2 rfl rfl (by omega) (by omega) (by omega)).mono ?_
  rintro e w' ⟨rfl, hw'⟩
  rw [hw', h4e]
  clear hw'
  go_wp2_with fail
  refine (rnumc _ b off n cap zs H.out hcap 6 2 6 2 rfl rfl (by omega) (by omega) (by omega)).mono ?_
  rintro e w' ⟨rfl, hw'⟩
  rw [hw', h6]
  clear hw'
  go_wp2_with fail
  refine wp_region_held_drew (S := (fun W => BS W (some ⟨b, off, none⟩) n zs)) (by kernel_rfl) H.out.drew (fun hHeld => ?_)
  refine wpAnyH_take (i := 0) (v := ?_) rfl (by kernel_rfl) (by kernel_rfl) (by kernel_rfl) (fun _ _ _ h => h) (Or.inl ⟨by rfl, ?_⟩) (by assumption) ?_
  rotate_left
  · (intro w hSw; (try dsimp only at hSw); go_simp; try with_reducible rfl)
  try simp only [List.getElem_toArray, List.getElem_cons_zero, List.getElem_cons_succ, Act.put, List.setIfInBounds_toArray, List.set_cons_zero, List.set_cons_succ]
  refine wpAnyH_take (i := 2) (v := ?_) rfl (by kernel_rfl) (by kernel_rfl) (by kernel_rfl) (fun _ _ _ h => h) (Or.inl ⟨by rfl, ?_⟩) (by assumption) ?_
  rotate_left
  · (intro w hSw; (try dsimp only at hSw); go_simp; try with_reducible rfl)
  try simp only [List.getElem_toArray, List.getElem_cons_zero, List.getElem_cons_succ, Act.put, List.setIfInBounds_toArray, List.set_cons_zero, List.set_cons_succ]
  refine wpAnyH_take (i := 4) (v := ?_) rfl (by kernel_rfl) (by kernel_rfl) (by kernel_rfl) (fun _ _ _ h => h) (Or.inl ⟨by rfl, ?_⟩) (by assumption) ?_
  rotate_left
  · (intro w hSw; (try dsimp only at hSw); go_simp; try with_reducible rfl)
  try simp only [List.getElem_toArray, List.getElem_cons_zero, List.getElem_cons_succ, Act.put, List.setIfInBounds_toArray, List.set_cons_zero, List.set_cons_succ]
  refine wpAnyH_take (i := 5) (v := ?_) rfl (by kernel_rfl) (by kernel_rfl) (by kernel_rfl) (fun _ _ _ h => h) (Or.inl ⟨by rfl, ?_⟩) (by assumption) ?_
  rotate_left
  · (intro w hSw; (try dsimp only at hSw); go_simp; try with_reducible rfl)
  try simp only [List.getElem_toArray, List.getElem_cons_zero, List.getElem_cons_succ, Act.put, List.setIfInBounds_toArray, List.set_cons_zero, List.set_cons_succ]
  refine wpAnyH_take (i := 6) (v := ?_) rfl (by kernel_rfl) (by kernel_rfl) (by kernel_rfl) (fun _ _ _ h => h) (Or.inl ⟨by rfl, ?_⟩) (by assumption) ?_
  rotate_left
  · (intro w hSw; (try dsimp only at hSw); go_simp; try with_reducible rfl)
  try simp only [List.getElem_toArray, List.getElem_cons_zero, List.getElem_cons_succ, Act.put, List.setIfInBounds_toArray, List.set_cons_zero, List.set_cons_succ]
  refine wpAnyH_take (i := 7) (v := .string (strOfNums (zs.drop 8))) rfl (by kernel_rfl) (by kernel_rfl) (by kernel_rfl) (fun _ _ _ h => h) (Or.inl ⟨by rfl, fun W hW => by have hcv := run_conv_bs (P := Try.prog) (w := W) (cap - 8) (hW.drop (by omega) 8 (by omega)) 26 9 5 Try.underlying26 Try.underlying5 Try.underlying9; go_simp⟩) (by assumption) ?_
  try simp only [List.getElem_toArray, List.getElem_cons_zero, List.getElem_cons_succ, Act.put, List.setIfInBounds_toArray, List.set_cons_zero, List.set_cons_succ]
  refine wpAnyH_ready (rs := [1]) (by kernel_rfl) (by simp) ?_
  refine AllReadyH.cons (o := _) rfl (fun K hK => ?_) AllReadyH.nil
  go_simp
  refine (rnumc _ b off n cap zs H.out.drew hcap 0 2 0 2 rfl rfl (by omega) (by omega) (by omega)).mono ?_
  rintro e w' ⟨rfl, hw'⟩
  rw [hw', hsp]
  clear hw'
  refine hK _ _ H.out.drew (fun hHeld => ?_)
  try simp only [List.getElem_toArray, List.getElem_cons_zero, List.getElem_cons_succ, Act.put, List.setIfInBounds_toArray, List.set_cons_zero, List.set_cons_succ]
  refine wpAnyH_ready (rs := [3]) (by kernel_rfl) (by simp) ?_
  refine AllReadyH.cons (o := _) rfl (fun K hK => ?_) AllReadyH.nil
  go_simp
  refine (rnumc _ b off n cap zs H.out.drew hcap 2 2 2 2 rfl rfl (by omega) (by omega) (by omega)).mono ?_
  rintro e w' ⟨rfl, hw'⟩
  rw [hw', hdp]
  clear hw'
  refine hK _ _ H.out.drew (fun hHeld => ?_)
  try simp only [List.getElem_toArray, List.getElem_cons_zero, List.getElem_cons_succ, Act.put, List.setIfInBounds_toArray, List.set_cons_zero, List.set_cons_succ]
  refine wpAnyH_take (i := 8) (v := ?_) rfl (by kernel_rfl) (by kernel_rfl) (by kernel_rfl) (fun _ _ _ h => h) (Or.inl ⟨by rfl, ?_⟩) (by assumption) ?_
  rotate_left
  · (intro w hSw; (try dsimp only at hSw); go_simp; try with_reducible rfl)
  try simp only [List.getElem_toArray, List.getElem_cons_zero, List.getElem_cons_succ, Act.put, List.setIfInBounds_toArray, List.set_cons_zero, List.set_cons_succ]
  refine wpAnyH_ready (rs := [9]) (by kernel_rfl) (by simp) ?_
  refine AllReadyH.cons (o := _) rfl (fun K hK => ?_) AllReadyH.nil
  go_simp
  refine hK _ _ (H0.out.below (below1 w _)).drew (fun hHeld => ?_)
  try simp only [List.getElem_toArray, List.getElem_cons_zero, List.getElem_cons_succ, Act.put, List.setIfInBounds_toArray, List.set_cons_zero, List.set_cons_succ]
  refine wpAnyH_ready (rs := [10]) (by kernel_rfl) (by simp) ?_
  refine AllReadyH.cons (o := _) rfl (fun K hK => ?_) AllReadyH.nil
  go_simp
  refine hK _ _ (H0.out.below (below1 w _)).drew (fun hHeld => ?_)
  refine wpAnyH_done (by kernel_rfl) ?_ _
  try simp only [List.getElem_toArray, List.getElem_cons_zero, List.getElem_cons_succ, Act.put, List.setIfInBounds_toArray, List.set_cons_zero, List.set_cons_succ]
  go_wp2
  refine bodyPost_ret (v := .tuple #[.agg #[.int .i64 2, .int .i64 0, .int .i64 0, .int .u32 0, .int .i64 sp, .int .i64 dp, .bool true, .int .u32 0, .int .u32 0, .int .i64 0, .int .i64 0, .int .i64 0, .string ⟨#[]⟩, .string (strOfNums (zs.drop 8))], .int .i64 0]) ?_ rfl ⟨rfl, ?_⟩
  · simp [results, Try.results29, go_sem]
  · exact (below1 w _).drew
set_option maxRecDepth 20000 in
set_option maxHeartbeats 8000000 in
theorem rdec_udp08 (src dst : Int) (w : World) (b off : Nat) (zs : List Int) (h : BS w (some ⟨b, off, none⟩) 8 zs) (sp dp : Int) (hsp : num ((zs.drop 0).take 2) = sp) (hdp : num ((zs.drop 2).take 2) = dp) (h4e : num ((zs.drop 4).take 2) = 8) (h6 : num ((zs.drop 6).take 2) = 0) :
    Calls Try.prog 29 #[.int .u32 src, .int .u32 dst, .int .i64 17, .slice (some ⟨b, off, none⟩) 8 8] w fun e w' => e = .returned (.tuple #[.agg #[.int .i64 2, .int .i64 0, .int .i64 0, .int .u32 0, .int .i64 sp, .int .i64 dp, .bool true, .int .u32 0, .int .u32 0, .int .i64 0, .int .i64 0, .int .i64 0, .string ⟨#[]⟩, .string (strOfNums [])], .int .i64 0]) ∧ Below w.heap.size w w' := by
  have H0 : Hid (BS w (some ⟨b, off, none⟩) 8 zs) := h
  have H : Hid (BS (w.alloc (.cells #[.int .i64 0, .int .i64 0, .int .i64 0, .int .u32 0, .int .i64 0, .int .i64 0, .bool false, .int .u32 0, .int .u32 0, .int .i64 0, .int .i64 0, .int .i64 0, .string ⟨#[]⟩, .string ⟨#[]⟩] 48)) (some ⟨b, off, none⟩) 8 zs) := h.below (below1 w _)
  clear h
  go_enter Try.func29, Try.ntmps29
  go_wp2_with fail
  refine (rnumc _ b off 8 8 zs H.out (Nat.le_refl _) 4 2 4 2 rfl rfl (by omega) (by omega) (by omega)).mono ?_
  rintro e w' ⟨rfl, hw'⟩
  rw [hw', h4e]
  clear hw'
  go_wp2_with fail
  refine (rnumc _ b off 8 8 zs H.out (Nat.le_refl _) 6 2 6 2 rfl rfl (by omega) (by omega) (by omega)).mono ?_
  rintro e w' ⟨rfl, hw'⟩
  rw [hw', h6]
  clear hw'
  go_wp2_with fail
  refine wp_region_held_drew (S := (fun W => BS W (some ⟨b, off, none⟩) 8 zs)) (by kernel_rfl) H.out.drew (fun hHeld => ?_)
  refine wpAnyH_take (i := 0) (v := ?_) rfl (by kernel_rfl) (by kernel_rfl) (by kernel_rfl) (fun _ _ _ h => h) (Or.inl ⟨by rfl, ?_⟩) (by assumption) ?_
  rotate_left
  · (intro w hSw; (try dsimp only at hSw); go_simp; try with_reducible rfl)
  try simp only [List.getElem_toArray, List.getElem_cons_zero, List.getElem_cons_succ, Act.put, List.setIfInBounds_toArray, List.set_cons_zero, List.set_cons_succ]
  refine wpAnyH_take (i := 2) (v := ?_) rfl (by kernel_rfl) (by kernel_rfl) (by kernel_rfl) (fun _ _ _ h => h) (Or.inl ⟨by rfl, ?_⟩) (by assumption) ?_
  rotate_left
  · (intro w hSw; (try dsimp only at hSw); go_simp; try with_reducible rfl)
  try simp only [List.getElem_toArray, List.getElem_cons_zero, List.getElem_cons_succ, Act.put, List.setIfInBounds_toArray, List.set_cons_zero, List.set_cons_succ]
  refine wpAnyH_take (i := 4) (v := ?_) rfl (by kernel_rfl) (by kernel_rfl) (by kernel_rfl) (fun _ _ _ h => h) (Or.inl ⟨by rfl, ?_⟩) (by assumption) ?_
  rotate_left
  · (intro w hSw; (try dsimp only at hSw); go_simp; try with_reducible rfl)
  try simp only [List.getElem_toArray, List.getElem_cons_zero, List.getElem_cons_succ, Act.put, List.setIfInBounds_toArray, List.set_cons_zero, List.set_cons_succ]
  refine wpAnyH_take (i := 5) (v := ?_) rfl (by kernel_rfl) (by kernel_rfl) (by kernel_rfl) (fun _ _ _ h => h) (Or.inl ⟨by rfl, ?_⟩) (by assumption) ?_
  rotate_left
  · (intro w hSw; (try dsimp only at hSw); go_simp; try with_reducible rfl)
  try simp only [List.getElem_toArray, List.getElem_cons_zero, List.getElem_cons_succ, Act.put, List.setIfInBounds_toArray, List.set_cons_zero, List.set_cons_succ]
  refine wpAnyH_take (i := 6) (v := ?_) rfl (by kernel_rfl) (by kernel_rfl) (by kernel_rfl) (fun _ _ _ h => h) (Or.inl ⟨by rfl, ?_⟩) (by assumption) ?_
  rotate_left
  · (intro w hSw; (try dsimp only at hSw); go_simp; try with_reducible rfl)
  try simp only [List.getElem_toArray, List.getElem_cons_zero, List.getElem_cons_succ, Act.put, List.setIfInBounds_toArray, List.set_cons_zero, List.set_cons_succ]
  refine wpAnyH_take (i := 7) (v := .string (strOfNums [])) rfl (by kernel_rfl) (by kernel_rfl) (by kernel_rfl) (fun _ _ _ h => h) (Or.inl ⟨by rfl, fun W hW => by have hcv := run_conv_bs (P := Try.prog) (w := W) (0) (BS.empty (some ⟨b, off, none⟩)) 26 9 5 Try.underlying26 Try.underlying5 Try.underlying9; go_simp⟩) (by assumption) ?_
  try simp only [List.getElem_toArray, List.getElem_cons_zero, List.getElem_cons_succ, Act.put, List.setIfInBounds_toArray, List.set_cons_zero, List.set_cons_succ]
  refine wpAnyH_ready (rs := [1]) (by kernel_rfl) (by simp) ?_
  refine AllReadyH.cons (o := _) rfl (fun K hK => ?_) AllReadyH.nil
  go_simp
  refine (rnumc _ b off 8 8 zs H.out.drew (Nat.le_refl _) 0 2 0 2 rfl rfl (by omega) (by omega) (by omega)).mono ?_
  rintro e w' ⟨rfl, hw'⟩
  rw [hw', hsp]
  clear hw'
  refine hK _ _ H.out.drew (fun hHeld => ?_)
  try simp only [List.getElem_toArray, List.getElem_cons_zero, List.getElem_cons_succ, Act.put, List.setIfInBounds_toArray, List.set_cons_zero, List.set_cons_succ]
  refine wpAnyH_ready (rs := [3]) (by kernel_rfl) (by simp) ?_
  refine AllReadyH.cons (o := _) rfl (fun K hK => ?_) AllReadyH.nil
  go_simp
  refine (rnumc _ b off 8 8 zs H.out.drew (Nat.le_refl _) 2 2 2 2 rfl rfl (by omega) (by omega) (by omega)).mono ?_
  rintro e w' ⟨rfl, hw'⟩
  rw [hw', hdp]
  clear hw'
  refine hK _ _ H.out.drew (fun hHeld => ?_)
  try simp only [List.getElem_toArray, List.getElem_cons_zero, List.getElem_cons_succ, Act.put, List.setIfInBounds_toArray, List.set_cons_zero, List.set_cons_succ]
  refine wpAnyH_take (i := 8) (v := ?_) rfl (by kernel_rfl) (by kernel_rfl) (by kernel_rfl) (fun _ _ _ h => h) (Or.inl ⟨by rfl, ?_⟩) (by assumption) ?_
  rotate_left
  · (intro w hSw; (try dsimp only at hSw); go_simp; try with_reducible rfl)
  try simp only [List.getElem_toArray, List.getElem_cons_zero, List.getElem_cons_succ, Act.put, List.setIfInBounds_toArray, List.set_cons_zero, List.set_cons_succ]
  refine wpAnyH_ready (rs := [9]) (by kernel_rfl) (by simp) ?_
  refine AllReadyH.cons (o := _) rfl (fun K hK => ?_) AllReadyH.nil
  go_simp
  refine hK _ _ (H0.out.below (below1 w _)).drew (fun hHeld => ?_)
  try simp only [List.getElem_toArray, List.getElem_cons_zero, List.getElem_cons_succ, Act.put, List.setIfInBounds_toArray, List.set_cons_zero, List.set_cons_succ]
  refine wpAnyH_ready (rs := [10]) (by kernel_rfl) (by simp) ?_
  refine AllReadyH.cons (o := _) rfl (fun K hK => ?_) AllReadyH.nil
  go_simp
  refine hK _ _ (H0.out.below (below1 w _)).drew (fun hHeld => ?_)
  refine wpAnyH_done (by kernel_rfl) ?_ _
  try simp only [List.getElem_toArray, List.getElem_cons_zero, List.getElem_cons_succ, Act.put, List.setIfInBounds_toArray, List.set_cons_zero, List.set_cons_succ]
  go_wp2
  refine bodyPost_ret (v := .tuple #[.agg #[.int .i64 2, .int .i64 0, .int .i64 0, .int .u32 0, .int .i64 sp, .int .i64 dp, .bool true, .int .u32 0, .int .u32 0, .int .i64 0, .int .i64 0, .int .i64 0, .string ⟨#[]⟩, .string (strOfNums [])], .int .i64 0]) ?_ rfl ⟨rfl, ?_⟩
  · simp [results, Try.results29, go_sem]
  · exact (below1 w _).drew
end Go.Proofs.Ytgonckbdkgiddaa
