/- What measure of package l4 answers of every packet. Condition: a slice of at most 2^47 bytes. -/
import Derived.Test.YtgonckbdkgiddaaL4e
namespace Go.Proofs.Ytgonckbdkgiddaa
open Go.RowKit

theorem take_two (zs : List Int) (k : Nat) (h : k + 2 ≤ zs.length) : (zs.drop k).take 2 = [zs.getD k 0, zs.getD (k + 1) 0] := by
  rw [List.drop_eq_getElem_cons (show k < zs.length by omega), List.drop_eq_getElem_cons (show k + 1 < zs.length by omega)]
  simp only [List.take_succ_cons, List.take_zero, List.getD_eq_getElem?_getD]
  rw [List.getElem?_eq_getElem (show k < zs.length by omega), List.getElem?_eq_getElem (show k + 1 < zs.length by omega)]
  rfl
theorem num_two (zs : List Int) (k : Nat) (h : k + 2 ≤ zs.length) : num ((zs.drop k).take 2) = zs.getD k 0 * 256 + zs.getD (k + 1) 0 := by
  rw [take_two zs k h]; simp [num]

set_option maxHeartbeats 1000000 in
theorem measure_udp_short (w : World) (a : Option Addr) (n cap : Nat) (h : n < 8) :
    Calls Try.prog 58 #[.int .i64 2, .slice a n cap] w fun e w' => e = .returned (.int .i64 20) ∧ w' = w := by
  have h1 : (n : Int) < 8 := by omega
  have hf : fixV 2 = 8 := by decide
  go_enter Try.func58, Try.ntmps58
  go_wp2_with fail
  refine scope_from ?_
  go_wp2_with (go_at_call 64; refine (fixed_any _ _).mono ?_; rintro e w' ⟨rfl, rfl⟩; rw [hf])
  go_step3
  show FromLabel _ _ _ _ _ _
  refine from_label rfl ?_
  go_wp2
  simp only [Exit.jumpTo]
  go_ret
  exact ⟨rfl, rfl⟩

set_option maxHeartbeats 1000000 in
theorem measure_udp_form (w : World) (b off n cap : Nat) (zs : List Int) (h : BS w (some ⟨b, off, none⟩) n zs) (hcap : n ≤ cap) (h8 : 8 ≤ n) (hne : zs.getD 4 0 * 256 + zs.getD 5 0 ≠ n) :
    Calls Try.prog 58 #[.int .i64 2, .slice (some ⟨b, off, none⟩) n cap] w fun e w' => e = .returned (.int .i64 21) ∧ w' = w := by
  have h1 : ¬ (n : Int) < 8 := by omega
  have hl := h.len
  have hf : fixV 2 = 8 := by decide
  have hT : num ((zs.drop 4).take 2) = zs.getD 4 0 * 256 + zs.getD 5 0 := num_two zs 4 (by omega)
  have hTb : 0 ≤ zs.getD 4 0 * 256 + zs.getD 5 0 ∧ zs.getD 4 0 * 256 + zs.getD 5 0 ≤ 65535 := by have := h.fits 4; have := h.fits 5; omega
  have H : Hid _ := h
  clear h
  generalize zs.getD 4 0 * 256 + zs.getD 5 0 = T at *
  have hb : (T != (n : Int)) = true := by simp [hne]
  clear hne
  go_enter Try.func58, Try.ntmps58
  go_wp2_with fail
  refine scope_from ?_
  go_wp2_with (first
    | (go_at_call 64; refine (fixed_any _ _).mono ?_; rintro e w' ⟨rfl, rfl⟩; rw [hf])
    | (go_at_call 71; refine (word_any _ b off n cap 4 zs H.out (by omega) hcap).mono ?_; rintro e w' ⟨rfl, rfl⟩; rw [hT])
    | fail)
  go_step3
  show FromLabel _ _ _ _ _ _
  refine from_label rfl ?_
  go_wp2
  simp only [Exit.jumpTo]
  go_ret
  exact ⟨rfl, rfl⟩

set_option maxHeartbeats 1000000 in
theorem measure_udp_ok (w : World) (b off n cap : Nat) (zs : List Int) (h : BS w (some ⟨b, off, none⟩) n zs) (hcap : n ≤ cap) (h8 : 8 ≤ n) (he : zs.getD 4 0 * 256 + zs.getD 5 0 = n) :
    Calls Try.prog 58 #[.int .i64 2, .slice (some ⟨b, off, none⟩) n cap] w fun e w' => e = .returned (.int .i64 0) ∧ w' = w := by
  have h1 : ¬ (n : Int) < 8 := by omega
  have hl := h.len
  have hf : fixV 2 = 8 := by decide
  have hT : num ((zs.drop 4).take 2) = n := (num_two zs 4 (by omega)).trans he
  have hTb : (n : Int) ≤ 65535 := by have := h.fits 4; have := h.fits 5; omega
  have H : Hid _ := h
  clear h he
  go_enter Try.func58, Try.ntmps58
  go_wp2_with fail
  refine scope_from ?_
  go_wp2_with (first
    | (go_at_call 64; refine (fixed_any _ _).mono ?_; rintro e w' ⟨rfl, rfl⟩; rw [hf])
    | (go_at_call 71; refine (word_any _ b off n cap 4 zs H.out (by omega) hcap).mono ?_; rintro e w' ⟨rfl, rfl⟩; rw [hT])
    | fail)
  simp only [Exit.jumpTo]
  go_ret
  exact ⟨rfl, rfl⟩
set_option maxHeartbeats 1000000 in
theorem measure_opaque (w : World) (a : Option Addr) (n cap : Nat) :
    Calls Try.prog 58 #[.int .i64 0, .slice a n cap] w fun e w' => e = .returned (.int .i64 0) ∧ w' = w := by
  have h1 : ¬ (n : Int) < 0 := by omega
  have hf : fixV 0 = 0 := by decide
  go_enter Try.func58, Try.ntmps58
  go_wp2_with fail
  refine scope_from ?_
  go_wp2_with (go_at_call 64; refine (fixed_any _ _).mono ?_; rintro e w' ⟨rfl, rfl⟩; rw [hf])
  simp only [Exit.jumpTo]
  go_ret
  exact ⟨rfl, rfl⟩

set_option maxHeartbeats 1000000 in
theorem measure_icmp_ok (w : World) (a : Option Addr) (n cap : Nat) (h : 8 ≤ n) :
    Calls Try.prog 58 #[.int .i64 1, .slice a n cap] w fun e w' => e = .returned (.int .i64 0) ∧ w' = w := by
  have h1 : ¬ (n : Int) < 8 := by omega
  have hf : fixV 1 = 8 := by decide
  go_enter Try.func58, Try.ntmps58
  go_wp2_with fail
  refine scope_from ?_
  go_wp2_with (go_at_call 64; refine (fixed_any _ _).mono ?_; rintro e w' ⟨rfl, rfl⟩; rw [hf])
  simp only [Exit.jumpTo]
  go_ret
  exact ⟨rfl, rfl⟩

set_option maxHeartbeats 1000000 in
theorem measure_short (w : World) (a : Option Addr) (n cap : Nat) (k : Int) (h : n < fixV k) :
    Calls Try.prog 58 #[.int .i64 k, .slice a n cap] w fun e w' => e = .returned (.int .i64 20) ∧ w' = w := by
  have hF := fixed_any k
  generalize fixV k = F at *
  have HF : Hid _ := hF
  clear hF
  go_enter Try.func58, Try.ntmps58
  go_wp2_with fail
  refine scope_from ?_
  go_wp2_with (go_at_call 64; refine (HF.out _).mono ?_; rintro e w' ⟨rfl, rfl⟩)
  go_step3
  show FromLabel _ _ _ _ _ _
  refine from_label rfl ?_
  go_wp2
  simp only [Exit.jumpTo]
  go_ret
  exact ⟨rfl, rfl⟩

theorem shr4 (x : Int) (hx : 0 ≤ x ∧ x ≤ 255) : x / 16 * 4 ≤ 60 := by omega

set_option maxHeartbeats 1000000 in
theorem measure_tcp_big (w : World) (b off n cap : Nat) (zs : List Int) (h : BS w (some ⟨b, off, none⟩) n zs) (h8 : 20 ≤ n) (hne : (n : Int) < zs.getD 12 0 / 16 * 4) :
    Calls Try.prog 58 #[.int .i64 3, .slice (some ⟨b, off, none⟩) n cap] w fun e w' => e = .returned (.int .i64 20) ∧ w' = w := by
  have h1 : ¬ (n : Int) < 20 := by omega
  have hl := h.len
  have hf : fixV 3 = 20 := by decide
  have hb := h.fits 12
  have hc : w.cell? ⟨b, off + 12, none⟩ = some (.int .u8 (zs.getD 12 0)) := by
    rcases h.cells with h0 | ⟨b', off', e, hc⟩
    · omega
    · cases e; exact hc 12 (by omega)
  generalize zs.getD 12 0 = T at *
  clear h
  go_enter Try.func58, Try.ntmps58
  go_wp2_with fail
  refine scope_from ?_
  go_wp2_with (go_at_call 64; refine (fixed_any _ _).mono ?_; rintro e w' ⟨rfl, rfl⟩; rw [hf])
  go_step3
  show FromLabel _ _ _ _ _ _
  refine from_label rfl ?_
  go_wp2
  simp only [Exit.jumpTo]
  go_ret
  exact ⟨rfl, rfl⟩

set_option maxHeartbeats 1000000 in
theorem measure_tcp_form (w : World) (b off n cap : Nat) (zs : List Int) (h : BS w (some ⟨b, off, none⟩) n zs) (h8 : 20 ≤ n) (hle : zs.getD 12 0 / 16 * 4 ≤ (n : Int)) (hne : zs.getD 12 0 / 16 * 4 < 20) :
    Calls Try.prog 58 #[.int .i64 3, .slice (some ⟨b, off, none⟩) n cap] w fun e w' => e = .returned (.int .i64 21) ∧ w' = w := by
  have h1 : ¬ (n : Int) < 20 := by omega
  have hl := h.len
  have hf : fixV 3 = 20 := by decide
  have hb := h.fits 12
  have hc : w.cell? ⟨b, off + 12, none⟩ = some (.int .u8 (zs.getD 12 0)) := by
    rcases h.cells with h0 | ⟨b', off', e, hc⟩
    · omega
    · cases e; exact hc 12 (by omega)
  generalize zs.getD 12 0 = T at *
  clear h
  go_enter Try.func58, Try.ntmps58
  go_wp2_with fail
  refine scope_from ?_
  go_wp2_with (go_at_call 64; refine (fixed_any _ _).mono ?_; rintro e w' ⟨rfl, rfl⟩; rw [hf])
  go_step3
  show FromLabel _ _ _ _ _ _
  refine from_label rfl ?_
  go_wp2
  simp only [Exit.jumpTo]
  go_ret
  exact ⟨rfl, rfl⟩

set_option maxHeartbeats 1000000 in
theorem measure_tcp_ok (w : World) (b off n cap : Nat) (zs : List Int) (h : BS w (some ⟨b, off, none⟩) n zs) (h8 : 20 ≤ n) (hle : zs.getD 12 0 / 16 * 4 ≤ (n : Int)) (hne : 20 ≤ zs.getD 12 0 / 16 * 4) :
    Calls Try.prog 58 #[.int .i64 3, .slice (some ⟨b, off, none⟩) n cap] w fun e w' => e = .returned (.int .i64 0) ∧ w' = w := by
  have h1 : ¬ (n : Int) < 20 := by omega
  have hl := h.len
  have hf : fixV 3 = 20 := by decide
  have hb := h.fits 12
  have hc : w.cell? ⟨b, off + 12, none⟩ = some (.int .u8 (zs.getD 12 0)) := by
    rcases h.cells with h0 | ⟨b', off', e, hc⟩
    · omega
    · cases e; exact hc 12 (by omega)
  generalize zs.getD 12 0 = T at *
  clear h
  go_enter Try.func58, Try.ntmps58
  go_wp2_with fail
  refine scope_from ?_
  go_wp2_with (go_at_call 64; refine (fixed_any _ _).mono ?_; rintro e w' ⟨rfl, rfl⟩; rw [hf])
  simp only [Exit.jumpTo]
  go_ret
  exact ⟨rfl, rfl⟩
end Go.Proofs.Ytgonckbdkgiddaa
