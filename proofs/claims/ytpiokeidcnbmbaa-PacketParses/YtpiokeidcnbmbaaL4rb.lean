/- The document's Decode of short, ill formed and wrongly summed packets. Condition: a slice of at most 2^47 bytes. -/
import Derived.Test.YtpiokeidcnbmbaaL4w
namespace Go.Proofs.Ytpiokeidcnbmbaa
open Go.RowKit
set_option maxHeartbeats 2000000 in
theorem rdec_icmp_short (src dst : Int) (w : World) (a : Option Addr) (n cap : Nat) (hn : n < 8) :
    Calls Try.prog 26 #[.int .u32 src, .int .u32 dst, .int .i64 1, .slice a n cap] w fun e w' => e = .returned (.tuple #[.agg #[.int .i64 0, .int .i64 0, .int .i64 0, .int .u32 0, .int .i64 0, .int .i64 0, .bool false, .int .u32 0, .int .u32 0, .int .i64 0, .int .i64 0, .int .i64 0, .string ⟨#[]⟩, .string ⟨#[]⟩], .int .i64 20]) ∧ Below w.heap.size w w' := by
  have h1 : (n : Int) < 8 := by omega
  go_enter Try.func26, Try.ntmps26
  go_wp2_with fail
  refine bodyPost_ret (v := .tuple #[.agg #[.int .i64 0, .int .i64 0, .int .i64 0, .int .u32 0, .int .i64 0, .int .i64 0, .bool false, .int .u32 0, .int .u32 0, .int .i64 0, .int .i64 0, .int .i64 0, .string ⟨#[]⟩, .string ⟨#[]⟩], .int .i64 20]) ?_ rfl ⟨rfl, ?_⟩
  · simp [results, Try.results26, go_sem]
  · exact below1 w _
set_option maxHeartbeats 2000000 in
theorem rdec_udp_short (src dst : Int) (w : World) (a : Option Addr) (n cap : Nat) (hn : n < 8) :
    Calls Try.prog 26 #[.int .u32 src, .int .u32 dst, .int .i64 17, .slice a n cap] w fun e w' => e = .returned (.tuple #[.agg #[.int .i64 0, .int .i64 0, .int .i64 0, .int .u32 0, .int .i64 0, .int .i64 0, .bool false, .int .u32 0, .int .u32 0, .int .i64 0, .int .i64 0, .int .i64 0, .string ⟨#[]⟩, .string ⟨#[]⟩], .int .i64 20]) ∧ Below w.heap.size w w' := by
  have h1 : (n : Int) < 8 := by omega
  go_enter Try.func26, Try.ntmps26
  go_wp2_with fail
  refine bodyPost_ret (v := .tuple #[.agg #[.int .i64 0, .int .i64 0, .int .i64 0, .int .u32 0, .int .i64 0, .int .i64 0, .bool false, .int .u32 0, .int .u32 0, .int .i64 0, .int .i64 0, .int .i64 0, .string ⟨#[]⟩, .string ⟨#[]⟩], .int .i64 20]) ?_ rfl ⟨rfl, ?_⟩
  · simp [results, Try.results26, go_sem]
  · exact below1 w _
set_option maxHeartbeats 2000000 in
theorem rdec_tcp_short (src dst : Int) (w : World) (a : Option Addr) (n cap : Nat) (hn : n < 20) :
    Calls Try.prog 26 #[.int .u32 src, .int .u32 dst, .int .i64 6, .slice a n cap] w fun e w' => e = .returned (.tuple #[.agg #[.int .i64 0, .int .i64 0, .int .i64 0, .int .u32 0, .int .i64 0, .int .i64 0, .bool false, .int .u32 0, .int .u32 0, .int .i64 0, .int .i64 0, .int .i64 0, .string ⟨#[]⟩, .string ⟨#[]⟩], .int .i64 20]) ∧ Below w.heap.size w w' := by
  have h1 : (n : Int) < 20 := by omega
  go_enter Try.func26, Try.ntmps26
  go_wp2_with fail
  refine bodyPost_ret (v := .tuple #[.agg #[.int .i64 0, .int .i64 0, .int .i64 0, .int .u32 0, .int .i64 0, .int .i64 0, .bool false, .int .u32 0, .int .u32 0, .int .i64 0, .int .i64 0, .int .i64 0, .string ⟨#[]⟩, .string ⟨#[]⟩], .int .i64 20]) ?_ rfl ⟨rfl, ?_⟩
  · simp [results, Try.results26, go_sem]
  · exact below1 w _
set_option maxHeartbeats 2000000 in
theorem rdec_icmp_sum (src dst : Int) (w : World) (b off n cap : Nat) (zs : List Int) (h : BS w (some ⟨b, off, none⟩) n zs) (hn : 8 ≤ n) (hb : sumV src dst 1 zs ≠ 65535) :
    Calls Try.prog 26 #[.int .u32 src, .int .u32 dst, .int .i64 1, .slice (some ⟨b, off, none⟩) n cap] w fun e w' => e = .returned (.tuple #[.agg #[.int .i64 0, .int .i64 0, .int .i64 0, .int .u32 0, .int .i64 0, .int .i64 0, .bool false, .int .u32 0, .int .u32 0, .int .i64 0, .int .i64 0, .int .i64 0, .string ⟨#[]⟩, .string ⟨#[]⟩], .int .i64 30]) ∧ Below w.heap.size w w' := by
  have h1 : ¬ (n : Int) < 8 := by omega
  have hb1 : (fld (wsum zs) != 65535) = true := by
    have : sumV src dst 1 zs = fld (wsum zs) := by unfold sumV; rw [if_pos rfl]
    rw [this] at hb
    simp [hb]
  have H : Hid (BS (w.alloc (.cells #[.int .i64 0, .int .i64 0, .int .i64 0, .int .u32 0, .int .i64 0, .int .i64 0, .bool false, .int .u32 0, .int .u32 0, .int .i64 0, .int .i64 0, .int .i64 0, .string ⟨#[]⟩, .string ⟨#[]⟩] 32)) (some ⟨b, off, none⟩) n zs) := h.below (below1 w _)
  clear h hb
  obtain ⟨F, hF⟩ : ∃ F, fld (wsum zs) = F := ⟨_, rfl⟩
  rw [hF] at hb1
  go_enter Try.func26, Try.ntmps26
  go_wp2_with (first
    | (go_at_call 52; refine (rsum_any _ H.out).mono ?_; rintro e w' ⟨rfl, rfl⟩; rw [hF])
    | fail)
  refine bodyPost_ret (v := .tuple #[.agg #[.int .i64 0, .int .i64 0, .int .i64 0, .int .u32 0, .int .i64 0, .int .i64 0, .bool false, .int .u32 0, .int .u32 0, .int .i64 0, .int .i64 0, .int .i64 0, .string ⟨#[]⟩, .string ⟨#[]⟩], .int .i64 30]) ?_ rfl ⟨rfl, ?_⟩
  · simp [results, Try.results26, go_sem]
  · exact below1 w _
set_option maxHeartbeats 2000000 in
theorem rdec_udp_form (src dst : Int) (w : World) (b off n cap : Nat) (zs : List Int) (h : BS w (some ⟨b, off, none⟩) n zs) (hcap : n ≤ cap) (hn : 8 ≤ n) (hne : num ((zs.drop 4).take 2) ≠ n) :
    Calls Try.prog 26 #[.int .u32 src, .int .u32 dst, .int .i64 17, .slice (some ⟨b, off, none⟩) n cap] w fun e w' => e = .returned (.tuple #[.agg #[.int .i64 0, .int .i64 0, .int .i64 0, .int .u32 0, .int .i64 0, .int .i64 0, .bool false, .int .u32 0, .int .u32 0, .int .i64 0, .int .i64 0, .int .i64 0, .string ⟨#[]⟩, .string ⟨#[]⟩], .int .i64 21]) ∧ Below w.heap.size w w' := by
  have h1 : ¬ (n : Int) < 8 := by omega
  have hl := h.len
  have H : Hid (BS (w.alloc (.cells #[.int .i64 0, .int .i64 0, .int .i64 0, .int .u32 0, .int .i64 0, .int .i64 0, .bool false, .int .u32 0, .int .u32 0, .int .i64 0, .int .i64 0, .int .i64 0, .string ⟨#[]⟩, .string ⟨#[]⟩] 32)) (some ⟨b, off, none⟩) n zs) := h.below (below1 w _)
  obtain ⟨T4, hT4⟩ : ∃ x, num ((zs.drop 4).take 2) = x := ⟨_, rfl⟩
  rw [hT4] at hne
  have hb : (T4 != (n : Int)) = true := by simp [hne]
  clear hne h
  go_enter Try.func26, Try.ntmps26
  go_wp2_with (first
    | (go_at_call 53; refine (rnumc _ b off n cap zs H.out hcap 4 2 4 2 rfl rfl (by omega) (by omega) (by omega)).mono ?_; rintro e w' ⟨rfl, rfl⟩; rw [hT4])
    | fail)
  refine bodyPost_ret (v := .tuple #[.agg #[.int .i64 0, .int .i64 0, .int .i64 0, .int .u32 0, .int .i64 0, .int .i64 0, .bool false, .int .u32 0, .int .u32 0, .int .i64 0, .int .i64 0, .int .i64 0, .string ⟨#[]⟩, .string ⟨#[]⟩], .int .i64 21]) ?_ rfl ⟨rfl, ?_⟩
  · simp [results, Try.results26, go_sem]
  · exact below1 w _
set_option maxHeartbeats 2000000 in
theorem rdec_udp_sum (src dst : Int) (hs : 0 ≤ src ∧ src ≤ 4294967295) (ht : 0 ≤ dst ∧ dst ≤ 4294967295) (w : World) (b off n cap : Nat) (zs : List Int) (h : BS w (some ⟨b, off, none⟩) n zs) (hcap : n ≤ cap) (hn : 8 ≤ n) (he : num ((zs.drop 4).take 2) = n) (hz : num ((zs.drop 6).take 2) ≠ 0) (hb : sumV src dst 2 zs ≠ 65535) :
    Calls Try.prog 26 #[.int .u32 src, .int .u32 dst, .int .i64 17, .slice (some ⟨b, off, none⟩) n cap] w fun e w' => e = .returned (.tuple #[.agg #[.int .i64 0, .int .i64 0, .int .i64 0, .int .u32 0, .int .i64 0, .int .i64 0, .bool false, .int .u32 0, .int .u32 0, .int .i64 0, .int .i64 0, .int .i64 0, .string ⟨#[]⟩, .string ⟨#[]⟩], .int .i64 30]) ∧ Below w.heap.size w w' := by
  have h1 : ¬ (n : Int) < 8 := by omega
  have hl := h.len
  have H : Hid (BS (w.alloc (.cells #[.int .i64 0, .int .i64 0, .int .i64 0, .int .u32 0, .int .i64 0, .int .i64 0, .bool false, .int .u32 0, .int .u32 0, .int .i64 0, .int .i64 0, .int .i64 0, .string ⟨#[]⟩, .string ⟨#[]⟩] 32)) (some ⟨b, off, none⟩) n zs) := h.below (below1 w _)
  have hT4 := he
  obtain ⟨T6, hT6⟩ : ∃ x, num ((zs.drop 6).take 2) = x := ⟨_, rfl⟩
  rw [hT6] at hz
  have hz1 : (T6 == 0) = false := by simp [hz]
  have hp1 := psd_bd src dst 17 (n : Int) hs.1 ht.1
  have hp2 := fld_bd (wsum zs) (wsum_bd h.fits)
  obtain ⟨P, hP⟩ : ∃ P, psd src dst 17 (n : Int) = P := ⟨_, rfl⟩
  obtain ⟨F, hF⟩ : ∃ F, fld (wsum zs) = F := ⟨_, rfl⟩
  rw [hP] at hp1
  rw [hF] at hp2
  obtain ⟨A, hA⟩ : ∃ A, fld (P + F) = A := ⟨_, rfl⟩
  have hb1 : (A != 65535) = true := by
    have : sumV src dst 2 zs = A := by
      unfold sumV; rw [if_neg (by decide), show protoN 2 = 17 from rfl, h.len, hP, hF, hA]
    rw [this] at hb
    simp [hb]
  clear h hb hz he
  go_enter Try.func26, Try.ntmps26
  go_wp2_with fail
  refine (rnumc _ b off n cap zs H.out hcap 4 2 4 2 rfl rfl (by omega) (by omega) (by omega)).mono ?_
  rintro e w' ⟨rfl, hw'⟩
  rw [hw', hT4]
  clear hw'
  go_wp2_with fail
  refine (rnumc _ b off n cap zs H.out hcap 6 2 6 2 rfl rfl (by omega) (by omega) (by omega)).mono ?_
  rintro e w' ⟨rfl, hw'⟩
  rw [hw', hT6]
  clear hw'
  go_wp2_with fail
  refine (rpseudo_any _ src dst 17 n hs ht).mono ?_
  rintro e w' ⟨rfl, hw'⟩
  rw [hw', hP]
  clear hw'
  go_wp2_with fail
  refine (rsum_any _ H.out).mono ?_
  rintro e w' ⟨rfl, hw'⟩
  rw [hw', hF]
  clear hw'
  go_wp2_with fail
  refine (radd_any _ _ hp1.1 hp1.2 hp2.1 hp2.2 _).mono ?_
  rintro e w' ⟨rfl, hw'⟩
  rw [hw', hA]
  clear hw'
  go_wp2
  refine bodyPost_ret (v := .tuple #[.agg #[.int .i64 0, .int .i64 0, .int .i64 0, .int .u32 0, .int .i64 0, .int .i64 0, .bool false, .int .u32 0, .int .u32 0, .int .i64 0, .int .i64 0, .int .i64 0, .string ⟨#[]⟩, .string ⟨#[]⟩], .int .i64 30]) ?_ rfl ⟨rfl, ?_⟩
  · simp [results, Try.results26, go_sem]
  · exact below1 w _
set_option maxHeartbeats 2000000 in
theorem rdec_tcp_form (src dst : Int) (w : World) (b off n cap : Nat) (zs : List Int) (h : BS w (some ⟨b, off, none⟩) n zs) (hn : 20 ≤ n) (hne : zs.getD 12 0 / 16 * 4 < 20) :
    Calls Try.prog 26 #[.int .u32 src, .int .u32 dst, .int .i64 6, .slice (some ⟨b, off, none⟩) n cap] w fun e w' => e = .returned (.tuple #[.agg #[.int .i64 0, .int .i64 0, .int .i64 0, .int .u32 0, .int .i64 0, .int .i64 0, .bool false, .int .u32 0, .int .u32 0, .int .i64 0, .int .i64 0, .int .i64 0, .string ⟨#[]⟩, .string ⟨#[]⟩], .int .i64 21]) ∧ Below w.heap.size w w' := by
  have h1 : ¬ (n : Int) < 20 := by omega
  have hl := h.len
  have hf12 := h.fits 12
  have H : Hid (BS (w.alloc (.cells #[.int .i64 0, .int .i64 0, .int .i64 0, .int .u32 0, .int .i64 0, .int .i64 0, .bool false, .int .u32 0, .int .u32 0, .int .i64 0, .int .i64 0, .int .i64 0, .string ⟨#[]⟩, .string ⟨#[]⟩] 32)) (some ⟨b, off, none⟩) n zs) := h.below (below1 w _)
  have hc : (w.alloc (.cells #[.int .i64 0, .int .i64 0, .int .i64 0, .int .u32 0, .int .i64 0, .int .i64 0, .bool false, .int .u32 0, .int .u32 0, .int .i64 0, .int .i64 0, .int .i64 0, .string ⟨#[]⟩, .string ⟨#[]⟩] 32)).cell? ⟨b, off + 12, none⟩ = some (.int .u8 (zs.getD 12 0)) := by
    rcases H.out.cells with h0 | ⟨b', off', e, hc⟩
    · omega
    · cases e; exact hc 12 (by omega)
  generalize zs.getD 12 0 = T at *
  have hq : IntKind.u8.wrap (T.tdiv 16) = T / 16 := by rw [Int.tdiv_eq_ediv_of_nonneg hf12.1, IntKind.wrap_u8]; omega
  have hne2 : 4 * (T / 16) < 20 := by omega
  clear h H
  go_enter Try.func26, Try.ntmps26
  go_wp2_with fail
  refine bodyPost_ret (v := .tuple #[.agg #[.int .i64 0, .int .i64 0, .int .i64 0, .int .u32 0, .int .i64 0, .int .i64 0, .bool false, .int .u32 0, .int .u32 0, .int .i64 0, .int .i64 0, .int .i64 0, .string ⟨#[]⟩, .string ⟨#[]⟩], .int .i64 21]) ?_ rfl ⟨rfl, ?_⟩
  · simp [results, Try.results26, go_sem]
  · exact below1 w _
set_option maxHeartbeats 2000000 in
theorem rdec_tcp_big (src dst : Int) (w : World) (b off n cap : Nat) (zs : List Int) (h : BS w (some ⟨b, off, none⟩) n zs) (hn : 20 ≤ n) (hle : 20 ≤ zs.getD 12 0 / 16 * 4) (hne : (n : Int) < zs.getD 12 0 / 16 * 4) :
    Calls Try.prog 26 #[.int .u32 src, .int .u32 dst, .int .i64 6, .slice (some ⟨b, off, none⟩) n cap] w fun e w' => e = .returned (.tuple #[.agg #[.int .i64 0, .int .i64 0, .int .i64 0, .int .u32 0, .int .i64 0, .int .i64 0, .bool false, .int .u32 0, .int .u32 0, .int .i64 0, .int .i64 0, .int .i64 0, .string ⟨#[]⟩, .string ⟨#[]⟩], .int .i64 20]) ∧ Below w.heap.size w w' := by
  have h1 : ¬ (n : Int) < 20 := by omega
  have hl := h.len
  have hf12 := h.fits 12
  have H : Hid (BS (w.alloc (.cells #[.int .i64 0, .int .i64 0, .int .i64 0, .int .u32 0, .int .i64 0, .int .i64 0, .bool false, .int .u32 0, .int .u32 0, .int .i64 0, .int .i64 0, .int .i64 0, .string ⟨#[]⟩, .string ⟨#[]⟩] 32)) (some ⟨b, off, none⟩) n zs) := h.below (below1 w _)
  have hc : (w.alloc (.cells #[.int .i64 0, .int .i64 0, .int .i64 0, .int .u32 0, .int .i64 0, .int .i64 0, .bool false, .int .u32 0, .int .u32 0, .int .i64 0, .int .i64 0, .int .i64 0, .string ⟨#[]⟩, .string ⟨#[]⟩] 32)).cell? ⟨b, off + 12, none⟩ = some (.int .u8 (zs.getD 12 0)) := by
    rcases H.out.cells with h0 | ⟨b', off', e, hc⟩
    · omega
    · cases e; exact hc 12 (by omega)
  generalize zs.getD 12 0 = T at *
  have hq : IntKind.u8.wrap (T.tdiv 16) = T / 16 := by rw [Int.tdiv_eq_ediv_of_nonneg hf12.1, IntKind.wrap_u8]; omega
  have hne2 : ¬ 4 * (T / 16) < 20 := by omega
  have hne3 : (n : Int) < 4 * (T / 16) := by omega
  clear h H
  go_enter Try.func26, Try.ntmps26
  go_wp2_with fail
  refine bodyPost_ret (v := .tuple #[.agg #[.int .i64 0, .int .i64 0, .int .i64 0, .int .u32 0, .int .i64 0, .int .i64 0, .bool false, .int .u32 0, .int .u32 0, .int .i64 0, .int .i64 0, .int .i64 0, .string ⟨#[]⟩, .string ⟨#[]⟩], .int .i64 20]) ?_ rfl ⟨rfl, ?_⟩
  · simp [results, Try.results26, go_sem]
  · exact below1 w _
set_option maxHeartbeats 2000000 in
theorem rdec_tcp_sum (src dst : Int) (hs : 0 ≤ src ∧ src ≤ 4294967295) (ht : 0 ≤ dst ∧ dst ≤ 4294967295) (w : World) (b off n cap : Nat) (zs : List Int) (h : BS w (some ⟨b, off, none⟩) n zs) (hn : 20 ≤ n) (hle : 20 ≤ zs.getD 12 0 / 16 * 4) (hne : zs.getD 12 0 / 16 * 4 ≤ (n : Int)) (hb : sumV src dst 3 zs ≠ 65535) :
    Calls Try.prog 26 #[.int .u32 src, .int .u32 dst, .int .i64 6, .slice (some ⟨b, off, none⟩) n cap] w fun e w' => e = .returned (.tuple #[.agg #[.int .i64 0, .int .i64 0, .int .i64 0, .int .u32 0, .int .i64 0, .int .i64 0, .bool false, .int .u32 0, .int .u32 0, .int .i64 0, .int .i64 0, .int .i64 0, .string ⟨#[]⟩, .string ⟨#[]⟩], .int .i64 30]) ∧ Below w.heap.size w w' := by
  have hp1 := psd_bd src dst 6 (n : Int) hs.1 ht.1
  have hp2 := fld_bd (wsum zs) (wsum_bd h.fits)
  obtain ⟨P, hP⟩ : ∃ P, psd src dst 6 (n : Int) = P := ⟨_, rfl⟩
  obtain ⟨F, hF⟩ : ∃ F, fld (wsum zs) = F := ⟨_, rfl⟩
  rw [hP] at hp1
  rw [hF] at hp2
  obtain ⟨A, hA⟩ : ∃ A, fld (P + F) = A := ⟨_, rfl⟩
  have hb1 : (A != 65535) = true := by
    have : sumV src dst 3 zs = A := by
      unfold sumV; rw [if_neg (by decide), show protoN 3 = 6 from rfl, h.len, hP, hF, hA]
    rw [this] at hb
    simp [hb]
  have h1 : ¬ (n : Int) < 20 := by omega
  have hl := h.len
  have hf12 := h.fits 12
  have H : Hid (BS (w.alloc (.cells #[.int .i64 0, .int .i64 0, .int .i64 0, .int .u32 0, .int .i64 0, .int .i64 0, .bool false, .int .u32 0, .int .u32 0, .int .i64 0, .int .i64 0, .int .i64 0, .string ⟨#[]⟩, .string ⟨#[]⟩] 32)) (some ⟨b, off, none⟩) n zs) := h.below (below1 w _)
  have hc : (w.alloc (.cells #[.int .i64 0, .int .i64 0, .int .i64 0, .int .u32 0, .int .i64 0, .int .i64 0, .bool false, .int .u32 0, .int .u32 0, .int .i64 0, .int .i64 0, .int .i64 0, .string ⟨#[]⟩, .string ⟨#[]⟩] 32)).cell? ⟨b, off + 12, none⟩ = some (.int .u8 (zs.getD 12 0)) := by
    rcases H.out.cells with h0 | ⟨b', off', e, hc⟩
    · omega
    · cases e; exact hc 12 (by omega)
  generalize zs.getD 12 0 = T at *
  have hq : IntKind.u8.wrap (T.tdiv 16) = T / 16 := by rw [Int.tdiv_eq_ediv_of_nonneg hf12.1, IntKind.wrap_u8]; omega
  have hne2 : ¬ 4 * (T / 16) < 20 := by omega
  have hne3 : ¬ (n : Int) < 4 * (T / 16) := by omega
  clear h hb hle hne
  go_enter Try.func26, Try.ntmps26
  go_wp2_with (first
    | (go_at_call 55; refine (rpseudo_any _ src dst _ _ hs ht).mono ?_; rintro e w' ⟨rfl, rfl⟩; rw [hP])
    | (go_at_call 52; refine (rsum_any _ H.out).mono ?_; rintro e w' ⟨rfl, rfl⟩; rw [hF])
    | (go_at_call 54; refine (radd_any _ _ hp1.1 hp1.2 hp2.1 hp2.2 _).mono ?_; rintro e w' ⟨rfl, rfl⟩; rw [hA])
    | fail)
  refine bodyPost_ret (v := .tuple #[.agg #[.int .i64 0, .int .i64 0, .int .i64 0, .int .u32 0, .int .i64 0, .int .i64 0, .bool false, .int .u32 0, .int .u32 0, .int .i64 0, .int .i64 0, .int .i64 0, .string ⟨#[]⟩, .string ⟨#[]⟩], .int .i64 30]) ?_ rfl ⟨rfl, ?_⟩
  · simp [results, Try.results26, go_sem]
  · exact below1 w _
end Go.Proofs.Ytpiokeidcnbmbaa
