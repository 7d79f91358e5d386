/- What measure of package ip answers: the size and the total length of the head with which some bytes begin, or what is wrong. Condition: a slice of at most 2^47 bytes. -/
import Derived.Test.YtgonckbdkgiddaaIB
namespace Go.Proofs.Ytgonckbdkgiddaa.Ip
open Go.RowKit

theorem and15 (x : Int) (h : 0 ≤ x ∧ x ≤ 255) : bits .and .u8 x 15 = x % 16 := by
  rw [u8_and x 15 (by omega) (by omega) (by omega) (by omega), show (15 : Int).toNat = 2 ^ 4 - 1 from rfl, Nat.and_two_pow_sub_one_eq_mod]
  omega

theorem take_two (zs : List Int) (k : Nat) (h : k + 2 ≤ zs.length) : (zs.drop k).take 2 = [zs.getD k 0, zs.getD (k + 1) 0] := by
  rw [List.drop_eq_getElem_cons (show k < zs.length by omega), List.drop_eq_getElem_cons (show k + 1 < zs.length by omega)]
  simp only [List.take_succ_cons, List.take_zero, List.getD_eq_getElem?_getD]
  rw [List.getElem?_eq_getElem (show k < zs.length by omega), List.getElem?_eq_getElem (show k + 1 < zs.length by omega)]
  rfl
theorem num_two (zs : List Int) (k : Nat) (h : k + 2 ≤ zs.length) : num ((zs.drop k).take 2) = zs.getD k 0 * 256 + zs.getD (k + 1) 0 := by
  rw [take_two zs k h]; simp [num]

def msrV (m : Int × Int × Int) : Value := .tuple #[.int .i64 m.1, .int .i64 m.2.1, .int .i64 m.2.2]

set_option maxHeartbeats 1000000 in
theorem measure_short (w : World) (a : Option Addr) (n cap : Nat) (room : Int) (h : n < 20) :
    Calls Try.prog 55 #[.slice a n cap, .int .i64 room] w fun e w' => e = .returned (msrV (0, 0, 20)) ∧ w' = w := by
  have h1 : (n : Int) < 20 := by omega
  go_enter Try.func55, Try.ntmps55
  go_wp2_with fail
  refine scope_from ?_
  go_wp2
  go_step3
  show FromLabel _ _ _ _ _ _
  refine from_label rfl ?_
  go_wp2
  simp only [Exit.jumpTo]
  refine bodyPost_ret (v := msrV (0, 0, 20)) ?_ rfl ⟨rfl, rfl⟩
  simp [results, Try.results55, go_sem, msrV]

set_option maxHeartbeats 1000000 in
theorem measure_ver (w : World) (b off n cap : Nat) (zs : List Int) (room : Int) (h : BS w (some ⟨b, off, none⟩) n zs) (hcap : n ≤ cap) (h20 : 20 ≤ n) (z T : Int) (m : Nat) (hz : zs.getD 0 0 = z) (hT0 : zs.getD 2 0 * 256 + zs.getD 3 0 = T) (hm2 : z % 16 * 4 = (m : Int)) (hv : z / 16 ≠ 4) :
    Calls Try.prog 55 #[.slice (some ⟨b, off, none⟩) n cap, .int .i64 room] w fun e w' => e = .returned (msrV (0, 0, 21)) ∧ ∃ nq, w' = w.drewN nq := by
  have hl := h.len
  have h1 : ¬ (n : Int) < 20 := by omega
  have hc0 : w.cell? ⟨b, off, none⟩ = some (.int .u8 z) := by
    rcases h.cells with h0 | ⟨b', off', e, hc⟩
    · omega
    · cases e
      have := hc 0 (by omega)
      rw [hz] at this
      simpa using this
  have hf0 : 0 ≤ z ∧ z ≤ 255 := by have := h.fits 0; rw [hz] at this; exact this
  have ha := and15 _ hf0
  have hT : num ((zs.drop 2).take 2) = T := (num_two zs 2 (by omega)).trans hT0
  have hTb : 0 ≤ T ∧ T ≤ 65535 := by have := h.fits 2; have := h.fits 3; omega
  have hmb : (m : Int) ≤ 60 := by omega
  have hv2 : (z / 16 != 4) = true := by simp [hv]
  clear hv
  have H : Hid _ := h
  clear h hz hT0
  go_enter Try.func55, Try.ntmps55
  go_wp2_with fail
  refine scope_from ?_
  go_wp2
  go_quiet (exact Calls.quiet_of_same (word_any _ b off n cap 2 zs (H.out.drewN _) (by omega) hcap))
  go_wp2_with (go_at_call 66; refine (sum_any _ ((H.out.take m (by omega)).drewN _)).mono ?_; rintro e w' ⟨rfl, nq2, rfl⟩)
  go_step3
  show FromLabel _ _ _ _ _ _
  refine from_label rfl ?_
  go_wp2
  simp only [Exit.jumpTo]
  refine bodyPost_ret (v := msrV (0, 0, 21)) ?_ rfl ⟨rfl, _, rfl⟩
  simp [results, Try.results55, go_sem, msrV]

set_option maxHeartbeats 1000000 in
theorem measure_few (w : World) (b off n cap : Nat) (zs : List Int) (room : Int) (h : BS w (some ⟨b, off, none⟩) n zs) (hcap : n ≤ cap) (h20 : 20 ≤ n) (z T : Int) (m : Nat) (hz : zs.getD 0 0 = z) (hT0 : zs.getD 2 0 * 256 + zs.getD 3 0 = T) (hm2 : z % 16 * 4 = (m : Int)) (hv : z / 16 = 4) (hs : m < 20) :
    Calls Try.prog 55 #[.slice (some ⟨b, off, none⟩) n cap, .int .i64 room] w fun e w' => e = .returned (msrV (0, 0, 21)) ∧ ∃ nq, w' = w.drewN nq := by
  have hl := h.len
  have h1 : ¬ (n : Int) < 20 := by omega
  have hc0 : w.cell? ⟨b, off, none⟩ = some (.int .u8 z) := by
    rcases h.cells with h0 | ⟨b', off', e, hc⟩
    · omega
    · cases e
      have := hc 0 (by omega)
      rw [hz] at this
      simpa using this
  have hf0 : 0 ≤ z ∧ z ≤ 255 := by have := h.fits 0; rw [hz] at this; exact this
  have ha := and15 _ hf0
  have hT : num ((zs.drop 2).take 2) = T := (num_two zs 2 (by omega)).trans hT0
  have hTb : 0 ≤ T ∧ T ≤ 65535 := by have := h.fits 2; have := h.fits 3; omega
  have hmb : (m : Int) ≤ 60 := by omega
  have hv2 : (z / 16 != 4) = false := by simp [hv]
  have hs2 : (m : Int) < 20 := by omega
  have H : Hid _ := h
  clear h hz hT0
  go_enter Try.func55, Try.ntmps55
  go_wp2_with fail
  refine scope_from ?_
  go_wp2
  go_quiet (exact Calls.quiet_of_same (word_any _ b off n cap 2 zs (H.out.drewN _) (by omega) hcap))
  go_wp2_with (go_at_call 66; refine (sum_any _ ((H.out.take m (by omega)).drewN _)).mono ?_; rintro e w' ⟨rfl, nq2, rfl⟩)
  go_step3
  show FromLabel _ _ _ _ _ _
  refine from_label rfl ?_
  go_wp2
  simp only [Exit.jumpTo]
  refine bodyPost_ret (v := msrV (0, 0, 21)) ?_ rfl ⟨rfl, _, rfl⟩
  simp [results, Try.results55, go_sem, msrV]

set_option maxHeartbeats 1000000 in
theorem measure_len (w : World) (b off n cap : Nat) (zs : List Int) (room : Int) (h : BS w (some ⟨b, off, none⟩) n zs) (hcap : n ≤ cap) (h20 : 20 ≤ n) (z T : Int) (m : Nat) (hz : zs.getD 0 0 = z) (hT0 : zs.getD 2 0 * 256 + zs.getD 3 0 = T) (hm2 : z % 16 * 4 = (m : Int)) (hv : z / 16 = 4) (hs : 20 ≤ m) (hn : n < m) :
    Calls Try.prog 55 #[.slice (some ⟨b, off, none⟩) n cap, .int .i64 room] w fun e w' => e = .returned (msrV (0, 0, 20)) ∧ ∃ nq, w' = w.drewN nq := by
  have hl := h.len
  have h1 : ¬ (n : Int) < 20 := by omega
  have hc0 : w.cell? ⟨b, off, none⟩ = some (.int .u8 z) := by
    rcases h.cells with h0 | ⟨b', off', e, hc⟩
    · omega
    · cases e
      have := hc 0 (by omega)
      rw [hz] at this
      simpa using this
  have hf0 : 0 ≤ z ∧ z ≤ 255 := by have := h.fits 0; rw [hz] at this; exact this
  have ha := and15 _ hf0
  have hT : num ((zs.drop 2).take 2) = T := (num_two zs 2 (by omega)).trans hT0
  have hTb : 0 ≤ T ∧ T ≤ 65535 := by have := h.fits 2; have := h.fits 3; omega
  have hmb : (m : Int) ≤ 60 := by omega
  have hv2 : (z / 16 != 4) = false := by simp [hv]
  have hs2 : ¬ (m : Int) < 20 := by omega
  have hs3 : (n : Int) < m := by omega
  have H : Hid _ := h
  clear h hz hT0
  go_enter Try.func55, Try.ntmps55
  go_wp2_with fail
  refine scope_from ?_
  go_wp2
  go_quiet (exact Calls.quiet_of_same (word_any _ b off n cap 2 zs (H.out.drewN _) (by omega) hcap))
  go_wp2_with (go_at_call 66; refine (sum_any _ ((H.out.take m (by omega)).drewN _)).mono ?_; rintro e w' ⟨rfl, nq2, rfl⟩)
  go_step3
  show FromLabel _ _ _ _ _ _
  refine from_label rfl ?_
  go_wp2
  simp only [Exit.jumpTo]
  refine bodyPost_ret (v := msrV (0, 0, 20)) ?_ rfl ⟨rfl, _, rfl⟩
  simp [results, Try.results55, go_sem, msrV]

set_option maxHeartbeats 1000000 in
theorem measure_room (w : World) (b off n cap : Nat) (zs : List Int) (room : Int) (h : BS w (some ⟨b, off, none⟩) n zs) (hcap : n ≤ cap) (h20 : 20 ≤ n) (z T : Int) (m : Nat) (hz : zs.getD 0 0 = z) (hT0 : zs.getD 2 0 * 256 + zs.getD 3 0 = T) (hm2 : z % 16 * 4 = (m : Int)) (hv : z / 16 = 4) (hs : 20 ≤ m) (hn : m ≤ n) (hr : room < T) :
    Calls Try.prog 55 #[.slice (some ⟨b, off, none⟩) n cap, .int .i64 room] w fun e w' => e = .returned (msrV (0, 0, 20)) ∧ ∃ nq, w' = w.drewN nq := by
  have hl := h.len
  have h1 : ¬ (n : Int) < 20 := by omega
  have hc0 : w.cell? ⟨b, off, none⟩ = some (.int .u8 z) := by
    rcases h.cells with h0 | ⟨b', off', e, hc⟩
    · omega
    · cases e
      have := hc 0 (by omega)
      rw [hz] at this
      simpa using this
  have hf0 : 0 ≤ z ∧ z ≤ 255 := by have := h.fits 0; rw [hz] at this; exact this
  have ha := and15 _ hf0
  have hT : num ((zs.drop 2).take 2) = T := (num_two zs 2 (by omega)).trans hT0
  have hTb : 0 ≤ T ∧ T ≤ 65535 := by have := h.fits 2; have := h.fits 3; omega
  have hmb : (m : Int) ≤ 60 := by omega
  have hv2 : (z / 16 != 4) = false := by simp [hv]
  have hs2 : ¬ (m : Int) < 20 := by omega
  have hs3 : ¬ (n : Int) < m := by omega
  have H : Hid _ := h
  clear h hz hT0
  go_enter Try.func55, Try.ntmps55
  go_wp2_with fail
  refine scope_from ?_
  go_wp2
  go_quiet (exact Calls.quiet_of_same (word_any _ b off n cap 2 zs (H.out.drewN _) (by omega) hcap))
  go_wp2_with (go_at_call 66; refine (sum_any _ ((H.out.take m (by omega)).drewN _)).mono ?_; rintro e w' ⟨rfl, nq2, rfl⟩)
  go_step3
  show FromLabel _ _ _ _ _ _
  refine from_label rfl ?_
  go_wp2
  simp only [Exit.jumpTo]
  refine bodyPost_ret (v := msrV (0, 0, 20)) ?_ rfl ⟨rfl, _, rfl⟩
  simp [results, Try.results55, go_sem, msrV]

set_option maxHeartbeats 1000000 in
theorem measure_total (w : World) (b off n cap : Nat) (zs : List Int) (room : Int) (h : BS w (some ⟨b, off, none⟩) n zs) (hcap : n ≤ cap) (h20 : 20 ≤ n) (z T : Int) (m : Nat) (hz : zs.getD 0 0 = z) (hT0 : zs.getD 2 0 * 256 + zs.getD 3 0 = T) (hm2 : z % 16 * 4 = (m : Int)) (hv : z / 16 = 4) (hs : 20 ≤ m) (hn : m ≤ n) (hr : T ≤ room) (ht : T < m) :
    Calls Try.prog 55 #[.slice (some ⟨b, off, none⟩) n cap, .int .i64 room] w fun e w' => e = .returned (msrV (0, 0, 21)) ∧ ∃ nq, w' = w.drewN nq := by
  have hl := h.len
  have h1 : ¬ (n : Int) < 20 := by omega
  have hc0 : w.cell? ⟨b, off, none⟩ = some (.int .u8 z) := by
    rcases h.cells with h0 | ⟨b', off', e, hc⟩
    · omega
    · cases e
      have := hc 0 (by omega)
      rw [hz] at this
      simpa using this
  have hf0 : 0 ≤ z ∧ z ≤ 255 := by have := h.fits 0; rw [hz] at this; exact this
  have ha := and15 _ hf0
  have hT : num ((zs.drop 2).take 2) = T := (num_two zs 2 (by omega)).trans hT0
  have hTb : 0 ≤ T ∧ T ≤ 65535 := by have := h.fits 2; have := h.fits 3; omega
  have hmb : (m : Int) ≤ 60 := by omega
  have hv2 : (z / 16 != 4) = false := by simp [hv]
  have hs2 : ¬ (m : Int) < 20 := by omega
  have hs3 : ¬ (n : Int) < m := by omega
  have hr2 : ¬ room < T := by omega
  have H : Hid _ := h
  clear h hz hT0
  go_enter Try.func55, Try.ntmps55
  go_wp2_with fail
  refine scope_from ?_
  go_wp2
  go_quiet (exact Calls.quiet_of_same (word_any _ b off n cap 2 zs (H.out.drewN _) (by omega) hcap))
  go_wp2_with (go_at_call 66; refine (sum_any _ ((H.out.take m (by omega)).drewN _)).mono ?_; rintro e w' ⟨rfl, nq2, rfl⟩)
  go_step3
  show FromLabel _ _ _ _ _ _
  refine from_label rfl ?_
  go_wp2
  simp only [Exit.jumpTo]
  refine bodyPost_ret (v := msrV (0, 0, 21)) ?_ rfl ⟨rfl, _, rfl⟩
  simp [results, Try.results55, go_sem, msrV]

set_option maxHeartbeats 1000000 in
theorem measure_sum (w : World) (b off n cap : Nat) (zs : List Int) (room : Int) (h : BS w (some ⟨b, off, none⟩) n zs) (hcap : n ≤ cap) (h20 : 20 ≤ n) (z T : Int) (m : Nat) (hz : zs.getD 0 0 = z) (hT0 : zs.getD 2 0 * 256 + zs.getD 3 0 = T) (hm2 : z % 16 * 4 = (m : Int)) (hv : z / 16 = 4) (hs : 20 ≤ m) (hn : m ≤ n) (hr : T ≤ room) (ht : (m : Int) ≤ T) (hS : fld (wsum (zs.take m)) ≠ 65535) :
    Calls Try.prog 55 #[.slice (some ⟨b, off, none⟩) n cap, .int .i64 room] w fun e w' => e = .returned (msrV (0, 0, 30)) ∧ ∃ nq, w' = w.drewN nq := by
  have hl := h.len
  have h1 : ¬ (n : Int) < 20 := by omega
  have hc0 : w.cell? ⟨b, off, none⟩ = some (.int .u8 z) := by
    rcases h.cells with h0 | ⟨b', off', e, hc⟩
    · omega
    · cases e
      have := hc 0 (by omega)
      rw [hz] at this
      simpa using this
  have hf0 : 0 ≤ z ∧ z ≤ 255 := by have := h.fits 0; rw [hz] at this; exact this
  have ha := and15 _ hf0
  have hT : num ((zs.drop 2).take 2) = T := (num_two zs 2 (by omega)).trans hT0
  have hTb : 0 ≤ T ∧ T ≤ 65535 := by have := h.fits 2; have := h.fits 3; omega
  have hmb : (m : Int) ≤ 60 := by omega
  have hv2 : (z / 16 != 4) = false := by simp [hv]
  have hs2 : ¬ (m : Int) < 20 := by omega
  have hs3 : ¬ (n : Int) < m := by omega
  have hr2 : ¬ room < T := by omega
  have ht2 : ¬ T < m := by omega
  have hS2 : (fld (wsum (zs.take m)) != 65535) = true := by simp [hS]
  have hmc : (m : Int) ≤ cap := by omega
  clear hS
  have H : Hid _ := h
  clear h hz hT0
  go_enter Try.func55, Try.ntmps55
  go_wp2_with fail
  refine scope_from ?_
  go_wp2
  go_quiet (exact Calls.quiet_of_same (word_any _ b off n cap 2 zs (H.out.drewN _) (by omega) hcap))
  go_wp2_with (go_at_call 66; refine (sum_any _ ((H.out.take m (by omega)).drewN _)).mono ?_; rintro e w' ⟨rfl, nq2, rfl⟩)
  go_step3
  show FromLabel _ _ _ _ _ _
  refine from_label rfl ?_
  go_wp2
  simp only [Exit.jumpTo]
  refine bodyPost_ret (v := msrV (0, 0, 30)) ?_ rfl ⟨rfl, _, rfl⟩
  simp [results, Try.results55, go_sem, msrV]

set_option maxHeartbeats 1000000 in
theorem measure_okay (w : World) (b off n cap : Nat) (zs : List Int) (room : Int) (h : BS w (some ⟨b, off, none⟩) n zs) (hcap : n ≤ cap) (h20 : 20 ≤ n) (z T : Int) (m : Nat) (hz : zs.getD 0 0 = z) (hT0 : zs.getD 2 0 * 256 + zs.getD 3 0 = T) (hm2 : z % 16 * 4 = (m : Int)) (hv : z / 16 = 4) (hs : 20 ≤ m) (hn : m ≤ n) (hr : T ≤ room) (ht : (m : Int) ≤ T) (hS : fld (wsum (zs.take m)) = 65535) :
    Calls Try.prog 55 #[.slice (some ⟨b, off, none⟩) n cap, .int .i64 room] w fun e w' => e = .returned (msrV ((m : Int), T, 0)) ∧ ∃ nq, w' = w.drewN nq := by
  have hl := h.len
  have h1 : ¬ (n : Int) < 20 := by omega
  have hc0 : w.cell? ⟨b, off, none⟩ = some (.int .u8 z) := by
    rcases h.cells with h0 | ⟨b', off', e, hc⟩
    · omega
    · cases e
      have := hc 0 (by omega)
      rw [hz] at this
      simpa using this
  have hf0 : 0 ≤ z ∧ z ≤ 255 := by have := h.fits 0; rw [hz] at this; exact this
  have ha := and15 _ hf0
  have hT : num ((zs.drop 2).take 2) = T := (num_two zs 2 (by omega)).trans hT0
  have hTb : 0 ≤ T ∧ T ≤ 65535 := by have := h.fits 2; have := h.fits 3; omega
  have hmb : (m : Int) ≤ 60 := by omega
  have hv2 : (z / 16 != 4) = false := by simp [hv]
  have hs2 : ¬ (m : Int) < 20 := by omega
  have hs3 : ¬ (n : Int) < m := by omega
  have hr2 : ¬ room < T := by omega
  have ht2 : ¬ T < m := by omega
  have hS2 : (fld (wsum (zs.take m)) != 65535) = false := by simp [hS]
  have hmc : (m : Int) ≤ cap := by omega
  clear hS
  have H : Hid _ := h
  clear h hz hT0
  go_enter Try.func55, Try.ntmps55
  go_wp2_with fail
  refine scope_from ?_
  go_wp2
  go_quiet (exact Calls.quiet_of_same (word_any _ b off n cap 2 zs (H.out.drewN _) (by omega) hcap))
  go_wp2_with (go_at_call 66; refine (sum_any _ ((H.out.take m (by omega)).drewN _)).mono ?_; rintro e w' ⟨rfl, nq2, rfl⟩)
  simp only [Exit.jumpTo]
  refine bodyPost_ret (v := msrV ((m : Int), T, 0)) ?_ rfl ⟨rfl, _, rfl⟩
  simp [results, Try.results55, go_sem, msrV]

theorem measure_any (w : World) (a : Option Addr) (n cap : Nat) (zs : List Int) (room : Int) (h : BS w a n zs) (hcap : n ≤ cap) :
    Calls Try.prog 55 #[.slice a n cap, .int .i64 room] w fun e w' => e = .returned (msrV (msr zs room)) ∧ ∃ nq, w' = w.drewN nq := by
  have hl := h.len
  by_cases h20 : n < 20
  · rw [show msr zs room = (0, 0, 20) from by unfold msr; rw [if_pos (by omega)]]
    exact (measure_short w a n cap room h20).mono fun e w' ⟨h1, h2⟩ => ⟨h1, 0, h2⟩
  · obtain ⟨b, off, rfl⟩ : ∃ b off, a = some ⟨b, off, none⟩ := by
      rcases h.cells with h0 | ⟨b, off, e, _⟩
      · omega
      · exact ⟨b, off, e⟩
    have hf := h.fits 0
    have hf2 := h.fits 2
    have hf3 := h.fits 3
    have hm2 : zs.getD 0 0 % 16 * 4 = ((zs.getD 0 0 % 16 * 4).toNat : Int) := by omega
    unfold msr
    rw [if_neg (by omega)]
    by_cases c1 : zs.getD 0 0 / 16 = 4
    · by_cases c2 : zs.getD 0 0 % 16 * 4 < 20
      · rw [if_pos (.inr c2)]
        exact measure_few w b off n cap zs room h hcap (by omega) _ _ _ rfl rfl hm2 c1 (by omega)
      · rw [if_neg (by omega)]
        by_cases c3 : (zs.length : Int) < zs.getD 0 0 % 16 * 4
        · rw [if_pos (.inl c3)]
          exact measure_len w b off n cap zs room h hcap (by omega) _ _ _ rfl rfl hm2 c1 (by omega) (by omega)
        · by_cases c4 : room < zs.getD 2 0 * 256 + zs.getD 3 0
          · rw [if_pos (.inr c4)]
            exact measure_room w b off n cap zs room h hcap (by omega) _ _ _ rfl rfl hm2 c1 (by omega) (by omega) c4
          · rw [if_neg (by omega)]
            by_cases c5 : zs.getD 2 0 * 256 + zs.getD 3 0 < zs.getD 0 0 % 16 * 4
            · rw [if_pos c5]
              exact measure_total w b off n cap zs room h hcap (by omega) _ _ _ rfl rfl hm2 c1 (by omega) (by omega) (by omega) (by omega)
            · rw [if_neg c5]
              by_cases c6 : fld (wsum (zs.take (zs.getD 0 0 % 16 * 4).toNat)) = 65535
              · rw [if_neg (fun hne => hne c6)]
                have := measure_okay w b off n cap zs room h hcap (by omega) _ _ _ rfl rfl hm2 c1 (by omega) (by omega) (by omega) (by omega) c6
                rw [← hm2] at this
                exact this
              · rw [if_pos c6]
                exact measure_sum w b off n cap zs room h hcap (by omega) _ _ _ rfl rfl hm2 c1 (by omega) (by omega) (by omega) (by omega) c6
    · rw [if_pos (.inl c1)]
      exact measure_ver w b off n cap zs room h hcap (by omega) _ _ _ rfl rfl hm2 c1

end Go.Proofs.Ytgonckbdkgiddaa.Ip
