/- Parts of the proof, in one text. -/
import Derived.Test.YtgonckbdkgiddaaDI
import Derived.Deep.RegionHeld3
import Derived.Deep.RegionWith
import Derived.Deep.DrawnRows
namespace Go.Proofs.Ytgonckbdkgiddaa.Ip
open Go.RowKit
attribute [local go_sem ↓] Go.wp_at_zero Go.wp_at_succ

theorem rnum_at {w W : World} {b off n : Nat} {zs : List Int} (h : BS w (some ⟨b, off, none⟩) n zs) (hW : Below w.heap.size w W) (l s c : Nat) (hs : 0 < s) (hs6 : s ≤ 6) (hl : l + s ≤ n) :
    Calls Try.prog 33 #[.slice (some ⟨b, off + l, none⟩) s c] W fun e w' => e = .returned (.int .u64 (num ((zs.drop l).take s))) ∧ w' = W :=
  rnum_any c (((h.drop (by omega) l (by omega)).take s (by omega)).below hW) hs6

theorem num_bd4' {w : World} {a : Option Addr} {n : Nat} {zs : List Int} (h : BS w a n zs) (hn : n ≤ 4) : 0 ≤ num zs ∧ num zs ≤ 4294967295 := by
  have hl := h.len
  have := num_bd zs h.fits zs.length
  rw [List.take_length] at this
  have h2 : (256 : Int) ^ zs.length ≤ 4294967296 := by
    rw [hl]
    match n, hn with
    | 0, _ => decide
    | 1, _ => decide
    | 2, _ => decide
    | 3, _ => decide
    | 4, _ => decide
  omega

theorem num_one (zs : List Int) (k : Nat) (h : k < zs.length) : num ((zs.drop k).take 1) = zs.getD k 0 := by
  rw [List.drop_eq_getElem_cons h]
  simp only [List.take_succ_cons, List.take_zero, List.getD_eq_getElem?_getD]
  rw [List.getElem?_eq_getElem h]
  simp [num]
theorem ipF_eq (zs : List Int) (n : Nat) (h : 20 ≤ zs.length) : ipF zs n = .agg #[.int .i64 (zs.getD 1 0), .int .i64 (num ((zs.drop 4).take 2)), .int .i64 (num ((zs.drop 6).take 2)), .int .i64 (zs.getD 8 0), .int .i64 (zs.getD 9 0), .int .u32 (num ((zs.drop 12).take 4)), .int .u32 (num ((zs.drop 16).take 4)), .string (strOfNums ((zs.drop 20).take (n - 20)))] := by
  unfold ipF
  rw [num_one zs 1 (by omega), num_one zs 8 (by omega), num_one zs 9 (by omega)]

set_option maxHeartbeats 1000000 in
theorem rdec_short (w : World) (a : Option Addr) (n cap : Nat) (h : n < 20) :
    Calls Try.prog 28 #[.slice a n cap] w fun e w' => e = .returned (.tuple #[ip0, .int .i64 0, .int .i64 0, .int .i64 20]) ∧ Below w.heap.size w w' := by
  have h1 : (n : Int) < 20 := by omega
  go_enter Try.func28, Try.ntmps28
  go_wp2
  refine bodyPost_ret (v := .tuple #[ip0, .int .i64 0, .int .i64 0, .int .i64 20]) ?_ rfl ⟨rfl, below1 w _⟩
  simp [results, Try.results28, go_sem, ip0]

set_option maxHeartbeats 1000000 in
theorem rdec_ver (w : World) (b off n cap : Nat) (zs : List Int) (h : BS w (some ⟨b, off, none⟩) n zs) (hcap : n ≤ cap) (h20 : 20 ≤ n) (z T : Int) (m : Nat) (hz : zs.getD 0 0 = z) (hT0 : zs.getD 2 0 * 256 + zs.getD 3 0 = T) (hm2 : z % 16 * 4 = (m : Int)) (hv : z / 16 ≠ 4) :
    Calls Try.prog 28 #[.slice (some ⟨b, off, none⟩) n cap] w fun e w' => e = .returned (.tuple #[ip0, .int .i64 0, .int .i64 0, .int .i64 21]) ∧ Below w.heap.size w w' := by
  have hl := h.len
  have h1 : ¬ (n : Int) < 20 := by omega
  have hn0 : (0 : Int) < n := by omega
  have hc0 : w.cell? ⟨b, off, none⟩ = some (.int .u8 z) := by
    rcases h.cells with h0 | ⟨b', off', e, hc⟩
    · omega
    · cases e
      have := hc 0 (by omega)
      rw [hz] at this
      simpa using this
  have hf0 : 0 ≤ z ∧ z ≤ 255 := by have := h.fits 0; rw [hz] at this; exact this
  have hT : num ((zs.drop 2).take 2) = T := (num_two zs 2 (by omega)).trans hT0
  have hTb : 0 ≤ T ∧ T ≤ 65535 := by have := h.fits 2; have := h.fits 3; omega
  have hmb : (m : Int) ≤ 60 := by omega
  have hm3 : 4 * (z % 16) = (m : Int) := by omega
  have hbl : b < w.heap.size := cell_lt hc0
  have hc4 : (4 : Int) ≤ cap := by omega
  have hne2 : ¬ cap = 2 := by omega
  have hv2 : (z / 16 != 4) = true := by simp [hv]
  clear hv
  have H : Hid _ := h
  clear h hz hT0
  go_enter Try.func28, Try.ntmps28
  go_wp2_with (first
    | (go_at_call 33; refine (rnum_at H.out ?_ _ _ _ (by omega) (by omega) (by omega)).mono ?_; exact below1 w _; rintro e w1 ⟨rfl, rfl⟩)
    | (go_at_call 52; refine (rsum_any _ ((H.out.take m (by omega)).below (below1 w _))).mono ?_; rintro e w1 ⟨rfl, rfl⟩)
    | fail)
  refine bodyPost_ret (v := .tuple #[ip0, .int .i64 0, .int .i64 0, .int .i64 21]) ?_ rfl ⟨rfl, below1 w _⟩
  simp [results, Try.results28, go_sem, ip0]

set_option maxHeartbeats 1000000 in
theorem rdec_few (w : World) (b off n cap : Nat) (zs : List Int) (h : BS w (some ⟨b, off, none⟩) n zs) (hcap : n ≤ cap) (h20 : 20 ≤ n) (z T : Int) (m : Nat) (hz : zs.getD 0 0 = z) (hT0 : zs.getD 2 0 * 256 + zs.getD 3 0 = T) (hm2 : z % 16 * 4 = (m : Int)) (hv : z / 16 = 4) (hs : m < 20) :
    Calls Try.prog 28 #[.slice (some ⟨b, off, none⟩) n cap] w fun e w' => e = .returned (.tuple #[ip0, .int .i64 0, .int .i64 0, .int .i64 21]) ∧ Below w.heap.size w w' := by
  have hl := h.len
  have h1 : ¬ (n : Int) < 20 := by omega
  have hn0 : (0 : Int) < n := by omega
  have hc0 : w.cell? ⟨b, off, none⟩ = some (.int .u8 z) := by
    rcases h.cells with h0 | ⟨b', off', e, hc⟩
    · omega
    · cases e
      have := hc 0 (by omega)
      rw [hz] at this
      simpa using this
  have hf0 : 0 ≤ z ∧ z ≤ 255 := by have := h.fits 0; rw [hz] at this; exact this
  have hT : num ((zs.drop 2).take 2) = T := (num_two zs 2 (by omega)).trans hT0
  have hTb : 0 ≤ T ∧ T ≤ 65535 := by have := h.fits 2; have := h.fits 3; omega
  have hmb : (m : Int) ≤ 60 := by omega
  have hm3 : 4 * (z % 16) = (m : Int) := by omega
  have hbl : b < w.heap.size := cell_lt hc0
  have hc4 : (4 : Int) ≤ cap := by omega
  have hne2 : ¬ cap = 2 := by omega
  have hv2 : (z / 16 != 4) = false := by simp [hv]
  have hs2 : (m : Int) < 20 := by omega
  have H : Hid _ := h
  clear h hz hT0
  go_enter Try.func28, Try.ntmps28
  go_wp2_with (first
    | (go_at_call 33; refine (rnum_at H.out ?_ _ _ _ (by omega) (by omega) (by omega)).mono ?_; exact below1 w _; rintro e w1 ⟨rfl, rfl⟩)
    | (go_at_call 52; refine (rsum_any _ ((H.out.take m (by omega)).below (below1 w _))).mono ?_; rintro e w1 ⟨rfl, rfl⟩)
    | fail)
  refine bodyPost_ret (v := .tuple #[ip0, .int .i64 0, .int .i64 0, .int .i64 21]) ?_ rfl ⟨rfl, below1 w _⟩
  simp [results, Try.results28, go_sem, ip0]

set_option maxHeartbeats 1000000 in
theorem rdec_len (w : World) (b off n cap : Nat) (zs : List Int) (h : BS w (some ⟨b, off, none⟩) n zs) (hcap : n ≤ cap) (h20 : 20 ≤ n) (z T : Int) (m : Nat) (hz : zs.getD 0 0 = z) (hT0 : zs.getD 2 0 * 256 + zs.getD 3 0 = T) (hm2 : z % 16 * 4 = (m : Int)) (hv : z / 16 = 4) (hs : 20 ≤ m) (hn : n < m) :
    Calls Try.prog 28 #[.slice (some ⟨b, off, none⟩) n cap] w fun e w' => e = .returned (.tuple #[ip0, .int .i64 0, .int .i64 0, .int .i64 20]) ∧ Below w.heap.size w w' := by
  have hl := h.len
  have h1 : ¬ (n : Int) < 20 := by omega
  have hn0 : (0 : Int) < n := by omega
  have hc0 : w.cell? ⟨b, off, none⟩ = some (.int .u8 z) := by
    rcases h.cells with h0 | ⟨b', off', e, hc⟩
    · omega
    · cases e
      have := hc 0 (by omega)
      rw [hz] at this
      simpa using this
  have hf0 : 0 ≤ z ∧ z ≤ 255 := by have := h.fits 0; rw [hz] at this; exact this
  have hT : num ((zs.drop 2).take 2) = T := (num_two zs 2 (by omega)).trans hT0
  have hTb : 0 ≤ T ∧ T ≤ 65535 := by have := h.fits 2; have := h.fits 3; omega
  have hmb : (m : Int) ≤ 60 := by omega
  have hm3 : 4 * (z % 16) = (m : Int) := by omega
  have hbl : b < w.heap.size := cell_lt hc0
  have hc4 : (4 : Int) ≤ cap := by omega
  have hne2 : ¬ cap = 2 := by omega
  have hv2 : (z / 16 != 4) = false := by simp [hv]
  have hs2 : ¬ (m : Int) < 20 := by omega
  have hs3 : (n : Int) < m := by omega
  have H : Hid _ := h
  clear h hz hT0
  go_enter Try.func28, Try.ntmps28
  go_wp2_with (first
    | (go_at_call 33; refine (rnum_at H.out ?_ _ _ _ (by omega) (by omega) (by omega)).mono ?_; exact below1 w _; rintro e w1 ⟨rfl, rfl⟩)
    | (go_at_call 52; refine (rsum_any _ ((H.out.take m (by omega)).below (below1 w _))).mono ?_; rintro e w1 ⟨rfl, rfl⟩)
    | fail)
  refine bodyPost_ret (v := .tuple #[ip0, .int .i64 0, .int .i64 0, .int .i64 20]) ?_ rfl ⟨rfl, below1 w _⟩
  simp [results, Try.results28, go_sem, ip0]

set_option maxHeartbeats 1000000 in
theorem rdec_room (w : World) (b off n cap : Nat) (zs : List Int) (h : BS w (some ⟨b, off, none⟩) n zs) (hcap : n ≤ cap) (h20 : 20 ≤ n) (z T : Int) (m : Nat) (hz : zs.getD 0 0 = z) (hT0 : zs.getD 2 0 * 256 + zs.getD 3 0 = T) (hm2 : z % 16 * 4 = (m : Int)) (hv : z / 16 = 4) (hs : 20 ≤ m) (hn : m ≤ n) (hr : (n : Int) < T) :
    Calls Try.prog 28 #[.slice (some ⟨b, off, none⟩) n cap] w fun e w' => e = .returned (.tuple #[ip0, .int .i64 0, .int .i64 0, .int .i64 20]) ∧ Below w.heap.size w w' := by
  have hl := h.len
  have h1 : ¬ (n : Int) < 20 := by omega
  have hn0 : (0 : Int) < n := by omega
  have hc0 : w.cell? ⟨b, off, none⟩ = some (.int .u8 z) := by
    rcases h.cells with h0 | ⟨b', off', e, hc⟩
    · omega
    · cases e
      have := hc 0 (by omega)
      rw [hz] at this
      simpa using this
  have hf0 : 0 ≤ z ∧ z ≤ 255 := by have := h.fits 0; rw [hz] at this; exact this
  have hT : num ((zs.drop 2).take 2) = T := (num_two zs 2 (by omega)).trans hT0
  have hTb : 0 ≤ T ∧ T ≤ 65535 := by have := h.fits 2; have := h.fits 3; omega
  have hmb : (m : Int) ≤ 60 := by omega
  have hm3 : 4 * (z % 16) = (m : Int) := by omega
  have hbl : b < w.heap.size := cell_lt hc0
  have hc4 : (4 : Int) ≤ cap := by omega
  have hne2 : ¬ cap = 2 := by omega
  have hv2 : (z / 16 != 4) = false := by simp [hv]
  have hs2 : ¬ (m : Int) < 20 := by omega
  have hs3 : ¬ (n : Int) < m := by omega
  have H : Hid _ := h
  clear h hz hT0
  go_enter Try.func28, Try.ntmps28
  go_wp2_with (first
    | (go_at_call 33; refine (rnum_at H.out ?_ _ _ _ (by omega) (by omega) (by omega)).mono ?_; exact below1 w _; rintro e w1 ⟨rfl, rfl⟩)
    | (go_at_call 52; refine (rsum_any _ ((H.out.take m (by omega)).below (below1 w _))).mono ?_; rintro e w1 ⟨rfl, rfl⟩)
    | fail)
  refine bodyPost_ret (v := .tuple #[ip0, .int .i64 0, .int .i64 0, .int .i64 20]) ?_ rfl ⟨rfl, below1 w _⟩
  simp [results, Try.results28, go_sem, ip0]

set_option maxHeartbeats 1000000 in
theorem rdec_total (w : World) (b off n cap : Nat) (zs : List Int) (h : BS w (some ⟨b, off, none⟩) n zs) (hcap : n ≤ cap) (h20 : 20 ≤ n) (z T : Int) (m : Nat) (hz : zs.getD 0 0 = z) (hT0 : zs.getD 2 0 * 256 + zs.getD 3 0 = T) (hm2 : z % 16 * 4 = (m : Int)) (hv : z / 16 = 4) (hs : 20 ≤ m) (hn : m ≤ n) (hr : T ≤ n) (ht : T < m) :
    Calls Try.prog 28 #[.slice (some ⟨b, off, none⟩) n cap] w fun e w' => e = .returned (.tuple #[ip0, .int .i64 0, .int .i64 0, .int .i64 21]) ∧ Below w.heap.size w w' := by
  have hl := h.len
  have h1 : ¬ (n : Int) < 20 := by omega
  have hn0 : (0 : Int) < n := by omega
  have hc0 : w.cell? ⟨b, off, none⟩ = some (.int .u8 z) := by
    rcases h.cells with h0 | ⟨b', off', e, hc⟩
    · omega
    · cases e
      have := hc 0 (by omega)
      rw [hz] at this
      simpa using this
  have hf0 : 0 ≤ z ∧ z ≤ 255 := by have := h.fits 0; rw [hz] at this; exact this
  have hT : num ((zs.drop 2).take 2) = T := (num_two zs 2 (by omega)).trans hT0
  have hTb : 0 ≤ T ∧ T ≤ 65535 := by have := h.fits 2; have := h.fits 3; omega
  have hmb : (m : Int) ≤ 60 := by omega
  have hm3 : 4 * (z % 16) = (m : Int) := by omega
  have hbl : b < w.heap.size := cell_lt hc0
  have hc4 : (4 : Int) ≤ cap := by omega
  have hne2 : ¬ cap = 2 := by omega
  have hv2 : (z / 16 != 4) = false := by simp [hv]
  have hs2 : ¬ (m : Int) < 20 := by omega
  have hs3 : ¬ (n : Int) < m := by omega
  have hr2 : ¬ (n : Int) < T := by omega
  have H : Hid _ := h
  clear h hz hT0
  go_enter Try.func28, Try.ntmps28
  go_wp2_with (first
    | (go_at_call 33; refine (rnum_at H.out ?_ _ _ _ (by omega) (by omega) (by omega)).mono ?_; exact below1 w _; rintro e w1 ⟨rfl, rfl⟩)
    | (go_at_call 52; refine (rsum_any _ ((H.out.take m (by omega)).below (below1 w _))).mono ?_; rintro e w1 ⟨rfl, rfl⟩)
    | fail)
  refine bodyPost_ret (v := .tuple #[ip0, .int .i64 0, .int .i64 0, .int .i64 21]) ?_ rfl ⟨rfl, below1 w _⟩
  simp [results, Try.results28, go_sem, ip0]

set_option maxHeartbeats 1000000 in
theorem rdec_sum (w : World) (b off n cap : Nat) (zs : List Int) (h : BS w (some ⟨b, off, none⟩) n zs) (hcap : n ≤ cap) (h20 : 20 ≤ n) (z T : Int) (m : Nat) (hz : zs.getD 0 0 = z) (hT0 : zs.getD 2 0 * 256 + zs.getD 3 0 = T) (hm2 : z % 16 * 4 = (m : Int)) (hv : z / 16 = 4) (hs : 20 ≤ m) (hn : m ≤ n) (hr : T ≤ n) (ht : (m : Int) ≤ T) (hS : fld (wsum (zs.take m)) ≠ 65535) :
    Calls Try.prog 28 #[.slice (some ⟨b, off, none⟩) n cap] w fun e w' => e = .returned (.tuple #[ip0, .int .i64 0, .int .i64 0, .int .i64 30]) ∧ Below w.heap.size w w' := by
  have hl := h.len
  have h1 : ¬ (n : Int) < 20 := by omega
  have hn0 : (0 : Int) < n := by omega
  have hc0 : w.cell? ⟨b, off, none⟩ = some (.int .u8 z) := by
    rcases h.cells with h0 | ⟨b', off', e, hc⟩
    · omega
    · cases e
      have := hc 0 (by omega)
      rw [hz] at this
      simpa using this
  have hf0 : 0 ≤ z ∧ z ≤ 255 := by have := h.fits 0; rw [hz] at this; exact this
  have hT : num ((zs.drop 2).take 2) = T := (num_two zs 2 (by omega)).trans hT0
  have hTb : 0 ≤ T ∧ T ≤ 65535 := by have := h.fits 2; have := h.fits 3; omega
  have hmb : (m : Int) ≤ 60 := by omega
  have hm3 : 4 * (z % 16) = (m : Int) := by omega
  have hbl : b < w.heap.size := cell_lt hc0
  have hc4 : (4 : Int) ≤ cap := by omega
  have hne2 : ¬ cap = 2 := by omega
  have hv2 : (z / 16 != 4) = false := by simp [hv]
  have hs2 : ¬ (m : Int) < 20 := by omega
  have hs3 : ¬ (n : Int) < m := by omega
  have hr2 : ¬ (n : Int) < T := by omega
  have ht2 : ¬ T < m := by omega
  have hS2 : (fld (wsum (zs.take m)) != 65535) = true := by simp [hS]
  have hmc : (m : Int) ≤ cap := by omega
  clear hS
  have H : Hid _ := h
  clear h hz hT0
  go_enter Try.func28, Try.ntmps28
  go_wp2_with (first
    | (go_at_call 33; refine (rnum_at H.out ?_ _ _ _ (by omega) (by omega) (by omega)).mono ?_; exact below1 w _; rintro e w1 ⟨rfl, rfl⟩)
    | (go_at_call 52; refine (rsum_any _ ((H.out.take m (by omega)).below (below1 w _))).mono ?_; rintro e w1 ⟨rfl, rfl⟩)
    | fail)
  refine bodyPost_ret (v := .tuple #[ip0, .int .i64 0, .int .i64 0, .int .i64 30]) ?_ rfl ⟨rfl, below1 w _⟩
  simp [results, Try.results28, go_sem, ip0]

end Go.Proofs.Ytgonckbdkgiddaa.Ip

namespace Go.Proofs.Ytgonckbdkgiddaa.Ip
open Go.RowKit
attribute [local go_sem ↓] Go.wp_at_zero Go.wp_at_succ

set_option maxHeartbeats 4000000 in
theorem rdec_ok (w : World) (b off n cap : Nat) (zs : List Int) (h : BS w (some ⟨b, off, none⟩) n zs) (hcap : n ≤ cap) (h20 : 20 ≤ n) (z T : Int) (m : Nat) (hz : zs.getD 0 0 = z) (hT0 : zs.getD 2 0 * 256 + zs.getD 3 0 = T) (hm2 : z % 16 * 4 = (m : Int)) (hv : z / 16 = 4) (hs : 20 ≤ m) (hn : m ≤ n) (hr : T ≤ n) (ht : (m : Int) ≤ T) (hS : fld (wsum (zs.take m)) = 65535) (hcap20 : cap ≠ 20) :
    Calls Try.prog 28 #[.slice (some ⟨b, off, none⟩) n cap] w fun e w' => e = .returned (.tuple #[ipF zs m, .int .i64 m, .int .i64 T, .int .i64 0]) ∧ Below w.heap.size w w' := by
  have hl := h.len
  rw [ipF_eq zs m (by omega)]
  have h1 : ¬ (n : Int) < 20 := by omega
  have hc0 : w.cell? ⟨b, off, none⟩ = some (.int .u8 z) := by
    rcases h.cells with h0 | ⟨b', off', e, hc⟩
    · omega
    · cases e
      have := hc 0 (by omega)
      rw [hz] at this
      simpa using this
  have hf0 : 0 ≤ z ∧ z ≤ 255 := by have := h.fits 0; rw [hz] at this; exact this
  have hT : num ((zs.drop 2).take 2) = T := (num_two zs 2 (by omega)).trans hT0
  have hTb : 0 ≤ T ∧ T ≤ 65535 := by have := h.fits 2; have := h.fits 3; omega
  have hmb : (m : Int) ≤ 60 := by omega
  have hm3 : 4 * (z % 16) = (m : Int) := by omega
  have hv2 : (z / 16 != 4) = false := by simp [hv]
  have hs2 : ¬ (m : Int) < 20 := by omega
  have hs3 : ¬ (n : Int) < m := by omega
  have hr2 : ¬ (n : Int) < T := by omega
  have ht2 : ¬ T < m := by omega
  have hS2 : (fld (wsum (zs.take m)) != 65535) = false := by simp [hS]
  have hmc : (m : Int) ≤ cap := by omega
  have hc4 : (4 : Int) ≤ cap := by omega
  have hne2 : ¬ cap = 2 := by omega
  have hcells : ∀ i, i < n → w.cell? ⟨b, off + i, none⟩ = some (.int .u8 (zs.getD i 0)) := by
    rcases h.cells with h0 | ⟨b', off', e, hc⟩
    · omega
    · cases e
      exact fun i hi => hc i (by omega)
  have hc1 := hcells 1 (by omega)
  have hc8 := hcells 8 (by omega)
  have hc9 := hcells 9 (by omega)
  have hf1 := h.fits 1
  have hf8 := h.fits 8
  have hf9 := h.fits 9
  have hbl : b < w.heap.size := cell_lt hc0
  have hbl1 : b < w.heap.size + 1 := by omega
  have hbl2 : b < w.heap.size + 1 + 1 := by omega
  clear hcells
  have b1 := num_bd4' ((h.drop (by omega) 4 (by omega)).take 2 (by omega)) (by omega)
  have b2 := num_bd4' ((h.drop (by omega) 6 (by omega)).take 2 (by omega)) (by omega)
  have b3 := num_bd4' ((h.drop (by omega) 12 (by omega)).take 4 (by omega)) (by omega)
  have b4 := num_bd4' ((h.drop (by omega) 16 (by omega)).take 4 (by omega)) (by omega)
  have hk4 : ¬ cap = 4 := by omega
  have hk6 : ¬ cap = 6 := by omega
  have hk12 : ¬ cap = 12 := by omega
  have hk16 : ¬ cap = 16 := by omega
  have hk20 : ¬ cap = 20 := hcap20
  have hl6 : (6 : Int) ≤ cap := by omega
  have hl8 : (8 : Int) ≤ cap := by omega
  have hl16 : (16 : Int) ≤ cap := by omega
  have hl20 : (20 : Int) ≤ cap := by omega
  have hm20 : (20 : Int) ≤ m := by omega
  have hn1 : (1 : Int) < n := by omega
  have hn8 : (8 : Int) < n := by omega
  have hn9 : (9 : Int) < n := by omega
  have cv : ∀ W : World, Below w.heap.size w W → (convert 26 9 (.slice (some ⟨b, off + 20, none⟩) (m - 20) (cap - 20))).run Try.prog W = .ok (.string (strOfNums ((zs.drop 20).take (m - 20)))) W := fun W hW =>
    run_conv_bs _ (((h.drop (by omega) 20 (by omega)).take (m - 20) (by omega)).below hW) 26 9 5 Try.underlying26 Try.underlying5 Try.underlying9
  have H : Hid _ := h
  clear h hz hT0 hS
  generalize zs.getD 1 0 = p1 at *
  generalize zs.getD 8 0 = p8 at *
  generalize zs.getD 9 0 = p9 at *
  go_enter Try.func28, Try.ntmps28
  go_wp2_with (first
    | (go_at_call 33; refine (rnum_at H.out ?_ _ _ _ (by omega) (by omega) (by omega)).mono ?_; exact below1 w _; rintro e w1 ⟨rfl, rfl⟩)
    | (go_at_call 52; refine (rsum_any _ ((H.out.take m (by omega)).below (below1 w _))).mono ?_; rintro e w1 ⟨rfl, rfl⟩)
    | fail)
  have hS := below1 w (.cells #[.int .i64 0, .int .i64 0, .int .i64 0, .int .i64 0, .int .i64 0, .int .u32 0, .int .u32 0, .string ⟨#[]⟩] 51)
  have cv1 := cv _ hS
  have cv2 := cv _ hS.drew
  have cv3 := cv _ (below2 w (.cells #[.int .i64 0, .int .i64 0, .int .i64 0, .int .i64 0, .int .i64 0, .int .u32 0, .int .u32 0, .string ⟨#[]⟩] 51) (.cells #[.int .i64 0, .int .i64 0, .int .i64 0, .int .i64 0, .int .i64 0, .int .u32 0, .int .u32 0, .string ⟨#[]⟩] 51)).drew
  go_region_held3 (fun W => Below w.heap.size w W ∧ W.cell? ⟨b, off + 1, none⟩ = some (.int .u8 (p1)) ∧ W.cell? ⟨b, off + 8, none⟩ = some (.int .u8 (p8)) ∧ W.cell? ⟨b, off + 9, none⟩ = some (.int .u8 (p9)))
    (first
      | exact ⟨hS, (hS.cell hbl).trans hc1, (hS.cell hbl).trans hc8, (hS.cell hbl).trans hc9⟩
      | exact ⟨hS.drew, (hS.cell hbl).trans hc1, (hS.cell hbl).trans hc8, (hS.cell hbl).trans hc9⟩
      | exact ⟨below2 w _ _, ((below2 w _ _).cell hbl).trans hc1, ((below2 w _ _).cell hbl).trans hc8, ((below2 w _ _).cell hbl).trans hc9⟩
      | exact ⟨(below2 w _ _).drew, ((below2 w _ _).drew.cell hbl).trans hc1, ((below2 w _ _).drew.cell hbl).trans hc8, ((below2 w _ _).drew.cell hbl).trans hc9⟩
      | fail)
    (first
      | (go_at_call 33; refine (rnum_at H.out ?_ _ _ _ (by omega) (by omega) (by omega)).mono ?_; (first | exact hS.drew | exact (below2 w _ _).drew | exact hS | exact below2 w _ _); rintro e w1 ⟨rfl, rfl⟩)
      | fail)
  all_goals
    go_wp2
    refine bodyPost_ret (v := .tuple #[.agg #[.int .i64 (p1), .int .i64 (num ((zs.drop 4).take 2)), .int .i64 (num ((zs.drop 6).take 2)), .int .i64 (p8), .int .i64 (p9), .int .u32 (num ((zs.drop 12).take 4)), .int .u32 (num ((zs.drop 16).take 4)), .string (strOfNums ((zs.drop 20).take (m - 20)))], .int .i64 m, .int .i64 T, .int .i64 0]) ?_ rfl ⟨rfl, ?_⟩
    · simp [results, Try.results28, go_sem]
    · first | exact (below2 w _ _).drew | exact below2 w _ _

end Go.Proofs.Ytgonckbdkgiddaa.Ip

namespace Go.Proofs.Ytgonckbdkgiddaa.Ip
open Go.RowKit
attribute [local go_sem ↓] Go.wp_at_zero Go.wp_at_succ

set_option maxHeartbeats 4000000 in
theorem rdec_tight (w : World) (b off n cap : Nat) (zs : List Int) (h : BS w (some ⟨b, off, none⟩) n zs) (hcap : n ≤ cap) (h20 : 20 ≤ n) (z T : Int) (m : Nat) (hz : zs.getD 0 0 = z) (hT0 : zs.getD 2 0 * 256 + zs.getD 3 0 = T) (hm2 : z % 16 * 4 = (m : Int)) (hv : z / 16 = 4) (hs : 20 ≤ m) (hn : m ≤ n) (hr : T ≤ n) (ht : (m : Int) ≤ T) (hS : fld (wsum (zs.take m)) = 65535) (hcap20 : cap = 20) :
    Calls Try.prog 28 #[.slice (some ⟨b, off, none⟩) n cap] w fun e w' => e = .returned (.tuple #[ipF zs m, .int .i64 m, .int .i64 T, .int .i64 0]) ∧ Below w.heap.size w w' := by
  have hl := h.len
  rw [ipF_eq zs m (by omega)]
  have h1 : ¬ (n : Int) < 20 := by omega
  have hc0 : w.cell? ⟨b, off, none⟩ = some (.int .u8 z) := by
    rcases h.cells with h0 | ⟨b', off', e, hc⟩
    · omega
    · cases e
      have := hc 0 (by omega)
      rw [hz] at this
      simpa using this
  have hf0 : 0 ≤ z ∧ z ≤ 255 := by have := h.fits 0; rw [hz] at this; exact this
  have hT : num ((zs.drop 2).take 2) = T := (num_two zs 2 (by omega)).trans hT0
  have hTb : 0 ≤ T ∧ T ≤ 65535 := by have := h.fits 2; have := h.fits 3; omega
  have hmb : (m : Int) ≤ 60 := by omega
  have hm3 : 4 * (z % 16) = (m : Int) := by omega
  have hv2 : (z / 16 != 4) = false := by simp [hv]
  have hs2 : ¬ (m : Int) < 20 := by omega
  have hs3 : ¬ (n : Int) < m := by omega
  have hr2 : ¬ (n : Int) < T := by omega
  have ht2 : ¬ T < m := by omega
  have hS2 : (fld (wsum (zs.take m)) != 65535) = false := by simp [hS]
  have hmc : (m : Int) ≤ cap := by omega
  have hc4 : (4 : Int) ≤ cap := by omega
  have hne2 : ¬ cap = 2 := by omega
  have hcells : ∀ i, i < n → w.cell? ⟨b, off + i, none⟩ = some (.int .u8 (zs.getD i 0)) := by
    rcases h.cells with h0 | ⟨b', off', e, hc⟩
    · omega
    · cases e
      exact fun i hi => hc i (by omega)
  have hc1 := hcells 1 (by omega)
  have hc8 := hcells 8 (by omega)
  have hc9 := hcells 9 (by omega)
  have hf1 := h.fits 1
  have hf8 := h.fits 8
  have hf9 := h.fits 9
  have hbl : b < w.heap.size := cell_lt hc0
  have hbl1 : b < w.heap.size + 1 := by omega
  have hbl2 : b < w.heap.size + 1 + 1 := by omega
  clear hcells
  have b1 := num_bd4' ((h.drop (by omega) 4 (by omega)).take 2 (by omega)) (by omega)
  have b2 := num_bd4' ((h.drop (by omega) 6 (by omega)).take 2 (by omega)) (by omega)
  have b3 := num_bd4' ((h.drop (by omega) 12 (by omega)).take 4 (by omega)) (by omega)
  have b4 := num_bd4' ((h.drop (by omega) 16 (by omega)).take 4 (by omega)) (by omega)
  have hk4 : ¬ cap = 4 := by omega
  have hk6 : ¬ cap = 6 := by omega
  have hk12 : ¬ cap = 12 := by omega
  have hk16 : ¬ cap = 16 := by omega
  have hl6 : (6 : Int) ≤ cap := by omega
  have hl8 : (8 : Int) ≤ cap := by omega
  have hl16 : (16 : Int) ≤ cap := by omega
  have hl20 : (20 : Int) ≤ cap := by omega
  have hm20 : (20 : Int) ≤ m := by omega
  have hn1 : (1 : Int) < n := by omega
  have hn8 : (8 : Int) < n := by omega
  have hn9 : (9 : Int) < n := by omega
  have cv : ∀ W : World, (convert 26 9 (.slice (some ⟨b, off, none⟩) 0 0)).run Try.prog W = .ok (.string ⟨#[]⟩) W := fun W =>
    run_conv_bs 0 (BS.empty (w := W) (some ⟨b, off, none⟩)) 26 9 5 Try.underlying26 Try.underlying5 Try.underlying9
  obtain rfl : n = 20 := by omega
  obtain rfl : m = 20 := by omega
  subst hcap20
  have H : Hid _ := h
  clear h hz hT0 hS
  generalize zs.getD 1 0 = p1 at *
  generalize zs.getD 8 0 = p8 at *
  generalize zs.getD 9 0 = p9 at *
  go_enter Try.func28, Try.ntmps28
  go_wp2_with (first
    | (go_at_call 33; refine (rnum_at H.out ?_ _ _ _ (by omega) (by omega) (by omega)).mono ?_; exact below1 w _; rintro e w1 ⟨rfl, rfl⟩)
    | (go_at_call 52; refine (rsum_any _ ((H.out.take 20 (by omega)).below (below1 w _))).mono ?_; rintro e w1 ⟨rfl, rfl⟩)
    | fail)
  have hS := below1 w (.cells #[.int .i64 0, .int .i64 0, .int .i64 0, .int .i64 0, .int .i64 0, .int .u32 0, .int .u32 0, .string ⟨#[]⟩] 51)
  go_region_held3 (fun W => Below w.heap.size w W ∧ W.cell? ⟨b, off + 1, none⟩ = some (.int .u8 (p1)) ∧ W.cell? ⟨b, off + 8, none⟩ = some (.int .u8 (p8)) ∧ W.cell? ⟨b, off + 9, none⟩ = some (.int .u8 (p9)))
    (first
      | exact ⟨hS, (hS.cell hbl).trans hc1, (hS.cell hbl).trans hc8, (hS.cell hbl).trans hc9⟩
      | exact ⟨hS.drew, (hS.cell hbl).trans hc1, (hS.cell hbl).trans hc8, (hS.cell hbl).trans hc9⟩
      | exact ⟨below2 w _ _, ((below2 w _ _).cell hbl).trans hc1, ((below2 w _ _).cell hbl).trans hc8, ((below2 w _ _).cell hbl).trans hc9⟩
      | exact ⟨(below2 w _ _).drew, ((below2 w _ _).drew.cell hbl).trans hc1, ((below2 w _ _).drew.cell hbl).trans hc8, ((below2 w _ _).drew.cell hbl).trans hc9⟩
      | fail)
    (first
      | (go_at_call 33; refine (rnum_at H.out ?_ _ _ _ (by omega) (by omega) (by omega)).mono ?_; (first | exact hS.drew | exact (below2 w _ _).drew | exact hS | exact below2 w _ _); rintro e w1 ⟨rfl, rfl⟩)
      | fail)
  all_goals
    go_wp2
    refine bodyPost_ret (v := .tuple #[.agg #[.int .i64 (p1), .int .i64 (num ((zs.drop 4).take 2)), .int .i64 (num ((zs.drop 6).take 2)), .int .i64 (p8), .int .i64 (p9), .int .u32 (num ((zs.drop 12).take 4)), .int .u32 (num ((zs.drop 16).take 4)), .string (strOfNums ((zs.drop 20).take (20 - 20)))], .int .i64 20, .int .i64 T, .int .i64 0]) ?_ rfl ⟨rfl, ?_⟩
    · simp [results, Try.results28, go_sem, strOfNums]
    · first | exact (below2 w _ _).drew | exact below2 w _ _


theorem rdec_no (w : World) (a : Option Addr) (n cap : Nat) (zs : List Int) (h : BS w a n zs) (hcap : n ≤ cap) (f : Int) (hf : f = 20 ∨ f = 21 ∨ f = 30) (hm : msr zs n = (0, 0, f)) :
    Calls Try.prog 28 #[.slice a n cap] w fun e w' => e = .returned (.tuple #[ip0, .int .i64 0, .int .i64 0, .int .i64 f]) ∧ Below w.heap.size w w' := by
  have hl := h.len
  by_cases h20 : n < 20
  · unfold msr at hm
    rw [if_pos (by omega)] at hm
    obtain rfl : 20 = f := by simpa using hm
    exact rdec_short w a n cap h20
  · obtain ⟨b, off, rfl⟩ : ∃ b off, a = some ⟨b, off, none⟩ := by
      rcases h.cells with h0 | ⟨b, off, e, _⟩
      · omega
      · exact ⟨b, off, e⟩
    have hf0 := h.fits 0
    have hf2 := h.fits 2
    have hf3 := h.fits 3
    have hm2 : zs.getD 0 0 % 16 * 4 = ((zs.getD 0 0 % 16 * 4).toNat : Int) := by omega
    unfold msr at hm
    rw [if_neg (by omega)] at hm
    by_cases c1 : zs.getD 0 0 / 16 = 4
    · by_cases c2 : zs.getD 0 0 % 16 * 4 < 20
      · rw [if_pos (.inr c2)] at hm
        obtain rfl : 21 = f := by simpa using hm
        exact rdec_few w b off n cap zs h hcap (by omega) _ _ _ rfl rfl hm2 c1 (by omega)
      · rw [if_neg (by omega)] at hm
        by_cases c3 : (zs.length : Int) < zs.getD 0 0 % 16 * 4
        · rw [if_pos (.inl c3)] at hm
          obtain rfl : 20 = f := by simpa using hm
          exact rdec_len w b off n cap zs h hcap (by omega) _ _ _ rfl rfl hm2 c1 (by omega) (by omega)
        · by_cases c4 : (n : Int) < zs.getD 2 0 * 256 + zs.getD 3 0
          · rw [if_pos (.inr c4)] at hm
            obtain rfl : 20 = f := by simpa using hm
            exact rdec_room w b off n cap zs h hcap (by omega) _ _ _ rfl rfl hm2 c1 (by omega) (by omega) c4
          · rw [if_neg (by omega)] at hm
            by_cases c5 : zs.getD 2 0 * 256 + zs.getD 3 0 < zs.getD 0 0 % 16 * 4
            · rw [if_pos c5] at hm
              obtain rfl : 21 = f := by simpa using hm
              exact rdec_total w b off n cap zs h hcap (by omega) _ _ _ rfl rfl hm2 c1 (by omega) (by omega) (by omega) (by omega)
            · rw [if_neg c5] at hm
              by_cases c6 : fld (wsum (zs.take (zs.getD 0 0 % 16 * 4).toNat)) = 65535
              · rw [if_neg (fun hne => hne c6)] at hm
                have := congrArg (fun x => x.2.2) hm
                simp at this
                omega
              · rw [if_pos c6] at hm
                obtain rfl : 30 = f := by simpa using hm
                exact rdec_sum w b off n cap zs h hcap (by omega) _ _ _ rfl rfl hm2 c1 (by omega) (by omega) (by omega) (by omega) c6
    · rw [if_pos (.inl c1)] at hm
      obtain rfl : 21 = f := by simpa using hm
      exact rdec_ver w b off n cap zs h hcap (by omega) _ _ _ rfl rfl hm2 c1

theorem rdec_any (w : World) (a : Option Addr) (n cap : Nat) (zs : List Int) (h : BS w a n zs) (hcap : n ≤ cap) :
    (∀ f, (f = 20 ∨ f = 21 ∨ f = 30) → msr zs n = (0, 0, f) → Calls Try.prog 28 #[.slice a n cap] w fun e w' => e = .returned (.tuple #[ip0, .int .i64 0, .int .i64 0, .int .i64 f]) ∧ Below w.heap.size w w') ∧
    (∀ m, MOk zs n m → Calls Try.prog 28 #[.slice a n cap] w fun e w' => e = .returned (.tuple #[ipF zs m, .int .i64 m, .int .i64 (zs.getD 2 0 * 256 + zs.getD 3 0), .int .i64 0]) ∧ Below w.heap.size w w') := by
  refine ⟨fun f hf hm => rdec_no w a n cap zs h hcap f hf hm, fun m hm => ?_⟩
  have hl := h.len
  obtain ⟨h1, h2, ⟨h3, h4, h5⟩, h6, h7, h8⟩ := hm
  obtain ⟨b, off, rfl⟩ : ∃ b off, a = some ⟨b, off, none⟩ := by
    rcases h.cells with h0 | ⟨b, off, e, _⟩
    · omega
    · exact ⟨b, off, e⟩
  by_cases hc : cap = 20
  · exact rdec_tight w b off n cap zs h hcap (by omega) _ _ m rfl rfl (by rw [h3]; omega) (by rw [h3]; omega) h2 (by omega) h6 h7 h8 hc
  · exact rdec_ok w b off n cap zs h hcap (by omega) _ _ m rfl rfl (by rw [h3]; omega) (by rw [h3]; omega) h2 (by omega) h6 h7 h8 hc

end Go.Proofs.Ytgonckbdkgiddaa.Ip
