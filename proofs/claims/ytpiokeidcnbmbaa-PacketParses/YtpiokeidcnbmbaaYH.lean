/- Parts of the proof, in one text. -/
import Derived.Test.YtpiokeidcnbmbaaXM
import Derived.Deep.RegionHeld3
import Derived.Deep.RegionWith
import Derived.Deep.DrawnRows
namespace Go.Proofs.Ytpiokeidcnbmbaa.Eth
open Go.RowKit
attribute [local go_sem ↓] Go.wp_at_zero Go.wp_at_succ

theorem rnum_at {w W : World} {b off n : Nat} {zs : List Int} (h : BS w (some ⟨b, off, none⟩) n zs) (hW : Below w.heap.size w W) (l s c : Nat) (hs : 0 < s) (hs6 : s ≤ 6) (hl : l + s ≤ n) :
    Calls Try.prog 51 #[.slice (some ⟨b, off + l, none⟩) s c] W fun e w' => e = .returned (.int .u64 (num ((zs.drop l).take s))) ∧ w' = W :=
  rnum_any c (((h.drop (by omega) l (by omega)).take s (by omega)).below hW) hs6
theorem rnum_at0 {w W : World} {b off n : Nat} {zs : List Int} (h : BS w (some ⟨b, off, none⟩) n zs) (hW : Below w.heap.size w W) (s c : Nat) (hs6 : s ≤ 6) (hl : s ≤ n) :
    Calls Try.prog 51 #[.slice (some ⟨b, off, none⟩) s c] W fun e w' => e = .returned (.int .u64 (num (zs.take s))) ∧ w' = W :=
  rnum_any c ((h.take s hl).below hW) hs6

set_option maxHeartbeats 2000000 in
theorem rhead_plain (w : World) (b off n cap : Nat) (zs : List Int) (h : BS w (some ⟨b, off, none⟩) n zs) (hcap : n ≤ cap) (hm : cap ≤ 9223372036854775807) (h14 : 14 ≤ n) (h9 : n ≤ 9018) (hT : num ((zs.drop 12).take 2) ≠ 33024) :
    Calls Try.prog 22 #[.slice (some ⟨b, off, none⟩) n cap] w fun e w' => e = .returned (ethV (num (zs.take 6)) (num ((zs.drop 6).take 6)) false 0 (num ((zs.drop 12).take 2)) 14 0) ∧ Below w.heap.size w w' := by
  have h1 : ¬ (9018 : Int) < n := by omega
  have h2 : ¬ (n : Int) < 14 := by omega
  have hT' : (num ((zs.drop 12).take 2) != 33024) = true := by simp [hT]
  have hTb := num_bd2 ((h.drop (by omega) 12 (by omega)).take 2 (by omega))
  have h3 : (14 : Int) ≤ cap := by omega
  have h6 : (6 : Int) ≤ cap := by omega
  have h12 : (12 : Int) ≤ cap := by omega
  have hc6 : ¬ cap = 6 := by omega
  have hc12 : ¬ cap = 12 := by omega
  have H : Hid (BS w (some ⟨b, off, none⟩) n zs) := h
  clear h hT
  have hS := below1 w (.cells #[.int .u64 0, .int .u64 0, .bool false, .int .i64 0, .int .i64 0] 25)
  go_enter Try.func22, Try.ntmps22
  go_wp2
  go_region_held3 (fun W => Below w.heap.size w W) (first | assumption | exact (below1 w _).drew | exact (below2 w _ _).drew | exact (below2 w _ _))
    (first
      | (go_at_call_of 51 (Value.slice (some ⟨b, off, none⟩) 6 cap); refine (rnum_at0 H.out ?_ _ _ (by omega) (by omega)).mono ?_; assumption; rintro e w1 ⟨rfl, rfl⟩)
      | (go_at_call 51; refine (rnum_at H.out ?_ _ _ _ (by omega) (by omega) (by omega)).mono ?_; assumption; rintro e w1 ⟨rfl, rfl⟩))
  all_goals
    go_wp2
    refine bodyPost_ret (v := ethV (num (zs.take 6)) (num ((zs.drop 6).take 6)) false 0 (num ((zs.drop 12).take 2)) 14 0) ?_ rfl ⟨rfl, (below2 w _ _).drew⟩
    simp [results, Try.results22, go_sem, ethV]
set_option maxHeartbeats 4000000 in
theorem rhead_short2 (w : World) (b off n cap : Nat) (zs : List Int) (h : BS w (some ⟨b, off, none⟩) n zs) (hcap : n ≤ cap) (hm : cap ≤ 9223372036854775807) (h14 : 14 ≤ n) (h9 : n < 18) (hT : num ((zs.drop 12).take 2) = 33024) :
    Calls Try.prog 22 #[.slice (some ⟨b, off, none⟩) n cap] w fun e w' => e = .returned (ethV 0 0 false 0 0 0 20) ∧ Below w.heap.size w w' := by
  have h1 : ¬ (9018 : Int) < n := by omega
  have h2 : ¬ (n : Int) < 14 := by omega
  have hTb := num_bd2 ((h.drop (by omega) 12 (by omega)).take 2 (by omega))
  have h3 : (14 : Int) ≤ cap := by omega
  have h6 : (6 : Int) ≤ cap := by omega
  have h12 : (12 : Int) ≤ cap := by omega
  have hc6 : ¬ cap = 6 := by omega
  have hc12 : ¬ cap = 12 := by omega
  have H : Hid (BS w (some ⟨b, off, none⟩) n zs) := h
  have hS := below1 w (.cells #[.int .u64 0, .int .u64 0, .bool false, .int .i64 0, .int .i64 0] 25)
  have hT' : (num ((zs.drop 12).take 2) != 33024) = false := by simp [hT]
  have h18 : (n : Int) < 18 := by omega
  clear h hT
  go_enter Try.func22, Try.ntmps22
  go_wp2
  go_region_held3 (fun W => Below w.heap.size w W) (first | assumption | exact (below1 w _).drew | exact (below2 w _ _).drew | exact (below2 w _ _) | exact (below2 w _ _).drew.drew)
    (first
      | (go_at_call_of 51 (Value.slice (some ⟨b, off, none⟩) 6 cap); refine (rnum_at0 H.out ?_ _ _ (by omega) (by omega)).mono ?_; assumption; rintro e w1 ⟨rfl, rfl⟩)
      | (go_at_call 51; refine (rnum_at H.out ?_ _ _ _ (by omega) (by omega) (by omega)).mono ?_; assumption; rintro e w1 ⟨rfl, rfl⟩))
  all_goals
    go_wp2
    refine bodyPost_ret (v := ethV 0 0 false 0 0 0 20) ?_ rfl ⟨rfl, (below2 w _ _).drew⟩
    simp [results, Try.results22, go_sem, ethV]

set_option maxHeartbeats 4000000 in
theorem rhead_twice (w : World) (b off n cap : Nat) (zs : List Int) (h : BS w (some ⟨b, off, none⟩) n zs) (hcap : n ≤ cap) (hm : cap ≤ 9223372036854775807) (h14 : 18 ≤ n) (h9 : n ≤ 9018) (hT : num ((zs.drop 12).take 2) = 33024) (hU : num ((zs.drop 16).take 2) = 33024) :
    Calls Try.prog 22 #[.slice (some ⟨b, off, none⟩) n cap] w fun e w' => e = .returned (ethV 0 0 false 0 0 0 21) ∧ Below w.heap.size w w' := by
  have h1 : ¬ (9018 : Int) < n := by omega
  have h2 : ¬ (n : Int) < 14 := by omega
  have hTb := num_bd2 ((h.drop (by omega) 12 (by omega)).take 2 (by omega))
  have h3 : (14 : Int) ≤ cap := by omega
  have h6 : (6 : Int) ≤ cap := by omega
  have h12 : (12 : Int) ≤ cap := by omega
  have hc6 : ¬ cap = 6 := by omega
  have hc12 : ¬ cap = 12 := by omega
  have H : Hid (BS w (some ⟨b, off, none⟩) n zs) := h
  have hS := below1 w (.cells #[.int .u64 0, .int .u64 0, .bool false, .int .i64 0, .int .i64 0] 25)
  have hT' : (num ((zs.drop 12).take 2) != 33024) = false := by simp [hT]
  have h18 : ¬ (n : Int) < 18 := by omega
  have hGb := num_bd2 ((h.drop (by omega) 14 (by omega)).take 2 (by omega))
  have hUb := num_bd2 ((h.drop (by omega) 16 (by omega)).take 2 (by omega))
  have hg1 : (14 : Int) ≤ cap := by omega
  have hg2 : (16 : Int) ≤ cap := by omega
  have hg3 : (18 : Int) ≤ cap := by omega
  have hc14 : ¬ cap = 14 := by omega
  have hc16 : ¬ cap = 16 := by omega
  have hU' : (num ((zs.drop 16).take 2) == 33024) = true := by simp [hU]
  clear h hT hU
  go_enter Try.func22, Try.ntmps22
  go_wp2
  go_region_held3 (fun W => Below w.heap.size w W) (first | assumption | exact (below1 w _).drew | exact (below2 w _ _).drew | exact (below2 w _ _) | exact (below2 w _ _).drew.drew)
    (first
      | (go_at_call_of 51 (Value.slice (some ⟨b, off, none⟩) 6 cap); refine (rnum_at0 H.out ?_ _ _ (by omega) (by omega)).mono ?_; assumption; rintro e w1 ⟨rfl, rfl⟩)
      | (go_at_call 51; refine (rnum_at H.out ?_ _ _ _ (by omega) (by omega) (by omega)).mono ?_; assumption; rintro e w1 ⟨rfl, rfl⟩))
  all_goals
    go_wp2
    go_region_held3 (fun W => Below w.heap.size w W) (first | assumption | exact (below1 w _).drew | exact (below2 w _ _).drew | exact (below2 w _ _) | exact (below2 w _ _).drew.drew)
      (first
        | (go_at_call_of 51 (Value.slice (some ⟨b, off, none⟩) 6 cap); refine (rnum_at0 H.out ?_ _ _ (by omega) (by omega)).mono ?_; assumption; rintro e w1 ⟨rfl, rfl⟩)
        | (go_at_call 51; refine (rnum_at H.out ?_ _ _ _ (by omega) (by omega) (by omega)).mono ?_; assumption; rintro e w1 ⟨rfl, rfl⟩))
    all_goals
      go_wp2
      refine bodyPost_ret (v := ethV 0 0 false 0 0 0 21) ?_ rfl ⟨rfl, (below2 w _ _).drew.drew⟩
      simp [results, Try.results22, go_sem, ethV]

set_option maxHeartbeats 4000000 in
theorem rhead_tagged (w : World) (b off n cap : Nat) (zs : List Int) (h : BS w (some ⟨b, off, none⟩) n zs) (hcap : n ≤ cap) (hm : cap ≤ 9223372036854775807) (h14 : 18 ≤ n) (h9 : n ≤ 9018) (hT : num ((zs.drop 12).take 2) = 33024) (hU : num ((zs.drop 16).take 2) ≠ 33024) :
    Calls Try.prog 22 #[.slice (some ⟨b, off, none⟩) n cap] w fun e w' => e = .returned (ethV (num (zs.take 6)) (num ((zs.drop 6).take 6)) true (num ((zs.drop 14).take 2)) (num ((zs.drop 16).take 2)) 18 0) ∧ Below w.heap.size w w' := by
  have h1 : ¬ (9018 : Int) < n := by omega
  have h2 : ¬ (n : Int) < 14 := by omega
  have hTb := num_bd2 ((h.drop (by omega) 12 (by omega)).take 2 (by omega))
  have h3 : (14 : Int) ≤ cap := by omega
  have h6 : (6 : Int) ≤ cap := by omega
  have h12 : (12 : Int) ≤ cap := by omega
  have hc6 : ¬ cap = 6 := by omega
  have hc12 : ¬ cap = 12 := by omega
  have H : Hid (BS w (some ⟨b, off, none⟩) n zs) := h
  have hS := below1 w (.cells #[.int .u64 0, .int .u64 0, .bool false, .int .i64 0, .int .i64 0] 25)
  have hT' : (num ((zs.drop 12).take 2) != 33024) = false := by simp [hT]
  have h18 : ¬ (n : Int) < 18 := by omega
  have hGb := num_bd2 ((h.drop (by omega) 14 (by omega)).take 2 (by omega))
  have hUb := num_bd2 ((h.drop (by omega) 16 (by omega)).take 2 (by omega))
  have hg1 : (14 : Int) ≤ cap := by omega
  have hg2 : (16 : Int) ≤ cap := by omega
  have hg3 : (18 : Int) ≤ cap := by omega
  have hc14 : ¬ cap = 14 := by omega
  have hc16 : ¬ cap = 16 := by omega
  have hU' : (num ((zs.drop 16).take 2) == 33024) = false := by simp [hU]
  clear h hT hU
  go_enter Try.func22, Try.ntmps22
  go_wp2
  go_region_held3 (fun W => Below w.heap.size w W) (first | assumption | exact (below1 w _).drew | exact (below2 w _ _).drew | exact (below2 w _ _) | exact (below2 w _ _).drew.drew)
    (first
      | (go_at_call_of 51 (Value.slice (some ⟨b, off, none⟩) 6 cap); refine (rnum_at0 H.out ?_ _ _ (by omega) (by omega)).mono ?_; assumption; rintro e w1 ⟨rfl, rfl⟩)
      | (go_at_call 51; refine (rnum_at H.out ?_ _ _ _ (by omega) (by omega) (by omega)).mono ?_; assumption; rintro e w1 ⟨rfl, rfl⟩))
  all_goals
    go_wp2
    go_region_held3 (fun W => Below w.heap.size w W) (first | assumption | exact (below1 w _).drew | exact (below2 w _ _).drew | exact (below2 w _ _) | exact (below2 w _ _).drew.drew)
      (first
        | (go_at_call_of 51 (Value.slice (some ⟨b, off, none⟩) 6 cap); refine (rnum_at0 H.out ?_ _ _ (by omega) (by omega)).mono ?_; assumption; rintro e w1 ⟨rfl, rfl⟩)
        | (go_at_call 51; refine (rnum_at H.out ?_ _ _ _ (by omega) (by omega) (by omega)).mono ?_; assumption; rintro e w1 ⟨rfl, rfl⟩))
    all_goals
      go_wp2
      refine bodyPost_ret (v := ethV (num (zs.take 6)) (num ((zs.drop 6).take 6)) true (num ((zs.drop 14).take 2)) (num ((zs.drop 16).take 2)) 18 0) ?_ rfl ⟨rfl, (below2 w _ _).drew.drew⟩
      simp [results, Try.results22, go_sem, ethV]

theorem rhead_long (w : World) (a : Option Addr) (n cap : Nat) (h9 : 9018 < n) :
    Calls Try.prog 22 #[.slice a n cap] w fun e w' => e = .returned (ethV 0 0 false 0 0 0 3) ∧ Below w.heap.size w w' := by
  have h1 : (9018 : Int) < n := by omega
  go_enter Try.func22, Try.ntmps22
  go_wp2
  refine bodyPost_ret (v := ethV 0 0 false 0 0 0 3) ?_ rfl ⟨rfl, (below1 w _)⟩
  simp [results, Try.results22, go_sem, ethV]

theorem rhead_short (w : World) (a : Option Addr) (n cap : Nat) (h9 : n < 14) :
    Calls Try.prog 22 #[.slice a n cap] w fun e w' => e = .returned (ethV 0 0 false 0 0 0 20) ∧ Below w.heap.size w w' := by
  have h1 : ¬ (9018 : Int) < n := by omega
  have h2 : (n : Int) < 14 := by omega
  go_enter Try.func22, Try.ntmps22
  go_wp2
  refine bodyPost_ret (v := ethV 0 0 false 0 0 0 20) ?_ rfl ⟨rfl, (below1 w _)⟩
  simp [results, Try.results22, go_sem, ethV]

/-- What a frame's head is. -/
theorem rhead_any {w : World} {a : Option Addr} {n : Nat} (cap : Nat) {zs : List Int} (h : BS w a n zs) (hcap : n ≤ cap) (hm : cap ≤ 9223372036854775807) :
    Calls Try.prog 22 #[.slice a n cap] w fun e w' => e = .returned (headV zs) ∧ Below w.heap.size w w' := by
  have hl := h.len
  unfold headV
  rw [hl]
  by_cases h1 : 9018 < n
  · rw [if_pos h1]; exact rhead_long w a n cap h1
  rw [if_neg h1]
  by_cases h2 : n < 14
  · rw [if_pos h2]; exact rhead_short w a n cap h2
  rw [if_neg h2]
  obtain ⟨b, off, rfl, _⟩ := h.cells.resolve_left (by omega)
  by_cases h3 : num ((zs.drop 12).take 2) ≠ 33024
  · rw [if_pos h3]; exact rhead_plain w b off n cap zs h hcap hm (by omega) (by omega) h3
  rw [if_neg h3]
  have h3' : num ((zs.drop 12).take 2) = 33024 := Classical.not_not.1 h3
  by_cases h4 : n < 18
  · rw [if_pos h4]; exact rhead_short2 w b off n cap zs h hcap hm (by omega) (by omega) h3'
  rw [if_neg h4]
  by_cases h5 : num ((zs.drop 16).take 2) = 33024
  · rw [if_pos h5]; exact rhead_twice w b off n cap zs h hcap hm (by omega) (by omega) h3' h5
  · rw [if_neg h5]; exact rhead_tagged w b off n cap zs h hcap hm (by omega) (by omega) h3' h5

end Go.Proofs.Ytpiokeidcnbmbaa.Eth

namespace Go.Proofs.Ytpiokeidcnbmbaa.Eth
open Go.RowKit
attribute [local go_sem ↓] Go.wp_at_zero Go.wp_at_succ
theorem rarp_short (w : World) (a : Option Addr) (n cap : Nat) (h9 : n < 28) :
    Calls Try.prog 23 #[.slice a n cap] w fun e w' => e = .returned (arpV 0 0 0 0 0 20) ∧ Below w.heap.size w w' := by
  have h2 : (n : Int) < 28 := by omega
  go_enter Try.func23, Try.ntmps23
  go_wp2
  refine bodyPost_ret (v := arpV 0 0 0 0 0 20) ?_ rfl ⟨rfl, (below1 w _)⟩
  simp [results, Try.results23, go_sem, arpV]

set_option maxHeartbeats 1000000 in
theorem rarp_form (w : World) (b off n cap : Nat) (zs : List Int) (h : BS w (some ⟨b, off, none⟩) n zs) (hcap : n ≤ cap) (h28 : 28 ≤ n) (hF : num (zs.take 6) ≠ 4429186564) :
    Calls Try.prog 23 #[.slice (some ⟨b, off, none⟩) n cap] w fun e w' => e = .returned (arpV 0 0 0 0 0 21) ∧ Below w.heap.size w w' := by
  have h2 : ¬ (n : Int) < 28 := by omega
  have h6 : (6 : Int) ≤ cap := by omega
  have hF' : (num (zs.take 6) != 4429186564) = true := by simp [hF]
  go_enter Try.func23, Try.ntmps23
  go_wp2_with (go_at_call 51; refine (rnum_at0 h ?_ _ _ (by omega) (by omega)).mono ?_; exact below1 w _; rintro e w1 ⟨rfl, rfl⟩)
  refine bodyPost_ret (v := arpV 0 0 0 0 0 21) ?_ rfl ⟨rfl, (below1 w _)⟩
  simp [results, Try.results23, go_sem, arpV]

set_option maxHeartbeats 4000000 in
theorem rarp_ok (w : World) (b off n cap : Nat) (zs : List Int) (h : BS w (some ⟨b, off, none⟩) n zs) (hcap : n ≤ cap) (h28 : 28 ≤ n) (hF : num (zs.take 6) = 4429186564) :
    Calls Try.prog 23 #[.slice (some ⟨b, off, none⟩) n cap] w fun e w' => e = .returned (arpV (num ((zs.drop 6).take 2)) (num ((zs.drop 8).take 6)) (num ((zs.drop 14).take 4)) (num ((zs.drop 18).take 6)) (num ((zs.drop 24).take 4)) 0) ∧ Below w.heap.size w w' := by
  have h2 : ¬ (n : Int) < 28 := by omega
  have h6 : (6 : Int) ≤ cap := by omega
  have h8 : (8 : Int) ≤ cap := by omega
  have h14 : (14 : Int) ≤ cap := by omega
  have h18 : (18 : Int) ≤ cap := by omega
  have h24 : (24 : Int) ≤ cap := by omega
  have h28' : (28 : Int) ≤ cap := by omega
  have c6 : ¬ cap = 6 := by omega
  have c8 : ¬ cap = 8 := by omega
  have c14 : ¬ cap = 14 := by omega
  have c18 : ¬ cap = 18 := by omega
  have c24 : ¬ cap = 24 := by omega
  have hF' : (num (zs.take 6) != 4429186564) = false := by simp [hF]
  have b2 := num_bd2 ((h.drop (by omega) 6 (by omega)).take 2 (by omega))
  have b4 := num_bd4 ((h.drop (by omega) 14 (by omega)).take 4 (by omega)).fits (by simp; have := h.len; omega)
  have b5 := num_bd4 ((h.drop (by omega) 24 (by omega)).take 4 (by omega)).fits (by simp; have := h.len; omega)
  have w0 : IntKind.i64.wrap (num ((zs.drop 6).take 2)) = num ((zs.drop 6).take 2) := by rw [IntKind.wrap_i64]; omega
  have w1 : IntKind.u32.wrap (num ((zs.drop 14).take 4)) = num ((zs.drop 14).take 4) := by rw [IntKind.wrap_u32']; omega
  have w2 : IntKind.u32.wrap (num ((zs.drop 24).take 4)) = num ((zs.drop 24).take 4) := by rw [IntKind.wrap_u32']; omega
  have H : Hid _ := h
  clear h hF
  have hS := below1 w (.cells #[.int .i64 0, .int .u64 0, .int .u32 0, .int .u64 0, .int .u32 0] 28)
  go_enter Try.func23, Try.ntmps23
  go_wp2_with (go_at_call 51; refine (rnum_at0 H.out ?_ _ _ (by omega) (by omega)).mono ?_; exact below1 w _; rintro e w1 ⟨rfl, rfl⟩)
  go_region_held3 (fun W => Below w.heap.size w W) (first | assumption | exact (below1 w _).drew | exact (below1 w _))
    (first
      | (go_at_call 51; refine (rnum_at H.out ?_ _ _ _ (by omega) (by omega) (by omega)).mono ?_; assumption; rintro e w1 ⟨rfl, rfl⟩)
      | fail)
  all_goals
    go_wp2
    refine bodyPost_ret (v := arpV (num ((zs.drop 6).take 2)) (num ((zs.drop 8).take 6)) (num ((zs.drop 14).take 4)) (num ((zs.drop 18).take 6)) (num ((zs.drop 24).take 4)) 0) ?_ rfl ⟨rfl, (below1 w _).drew⟩
    simp [results, Try.results23, go_sem, arpV]

theorem rarp_any {w : World} {a : Option Addr} {n : Nat} (cap : Nat) {zs : List Int} (h : BS w a n zs) (hcap : n ≤ cap) :
    Calls Try.prog 23 #[.slice a n cap] w fun e w' => e = .returned (arpOf zs) ∧ Below w.heap.size w w' := by
  have hl := h.len
  unfold arpOf
  rw [hl]
  by_cases h2 : n < 28
  · rw [if_pos h2]; exact rarp_short w a n cap h2
  rw [if_neg h2]
  obtain ⟨b, off, rfl, _⟩ := h.cells.resolve_left (by omega)
  by_cases h3 : num (zs.take 6) ≠ 4429186564
  · rw [if_pos h3]; exact rarp_form w b off n cap zs h hcap (by omega) h3
  · rw [if_neg h3]; exact rarp_ok w b off n cap zs h hcap (by omega) (Classical.not_not.1 h3)


end Go.Proofs.Ytpiokeidcnbmbaa.Eth
