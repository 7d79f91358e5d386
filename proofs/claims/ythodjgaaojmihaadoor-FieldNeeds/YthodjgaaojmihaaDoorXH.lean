/- What Head of package eth answers, case by case. Condition: a slice of at most 2^47 bytes. -/
import Derived.Test.YthodjgaaojmihaaDoorLOct
namespace Go.Proofs.YthodjgaaojmihaaDoor.Eth
open Go.RowKit

set_option maxHeartbeats 1000000 in
theorem take_any (W : World) (p q b off n cap t s : Nat) (zs : List Int) (hat : W.cell? ⟨p, 0, none⟩ = some (.int .i64 t)) (hfr : W.frozen? ⟨p, 0, none⟩ = false) (hbx : W.cell? ⟨q, 0, none⟩ = some (.slice (some ⟨b, off, none⟩) n cap)) (_hpq : p ≠ q) (_hpb : p ≠ b)
    (h : BS W (some ⟨b, off, none⟩) n zs) (hs0 : 0 < s) (hs6 : s ≤ 6) (hts : t + s ≤ n) (hcap : n ≤ cap) (hm : cap ≤ 9223372036854775807) :
    Calls Tryd.prog 22 #[.int .i64 s, .pointer (some ⟨p, 0, none⟩), .pointer (some ⟨q, 0, none⟩)] W fun e w' => e = .returned (.int .u64 (num ((zs.drop t).take s))) ∧ w' = W.setCell ⟨p, 0, none⟩ (.int .i64 ((t : Int) + s)) := by
  have hbx' : (W.setCell ⟨p, 0, none⟩ (.int .i64 ((t : Int) + s))).cell? ⟨q, 0, none⟩ = some (.slice (some ⟨b, off, none⟩) n cap) := (World.cell?_setCell_other _ _ _ _ (by simp)).trans hbx
  have hat' : (W.setCell ⟨p, 0, none⟩ (.int .i64 ((t : Int) + s))).cell? ⟨p, 0, none⟩ = some (.int .i64 ((t : Int) + s)) := World.cell?_setCell_same _ _ _ hat
  have hle : (t : Int) + s ≤ cap := by omega
  have hne : ¬ cap = t := by omega
  have hs' : (s : Int) ≤ 6 := by omega
  have ht' : (t : Int) ≤ 140737488355328 := by have := h.room; omega
  have H : Hid (BS (W.setCell ⟨p, 0, none⟩ (.int .i64 ((t : Int) + s))) (some ⟨b, off + t, none⟩) s ((zs.drop t).take s)) := by
    have h1 := (h.drop (by omega) t (by omega)).take s (by omega)
    refine ⟨h1.len, h1.fits, h1.room, ?_⟩
    rcases h1.cells with h0 | ⟨b', off', e, hc⟩
    · exact .inl h0
    · cases e
      exact .inr ⟨_, _, rfl, fun i hi => (World.cell?_setCell_other _ _ _ _ (by simp)).trans (hc i hi)⟩
  clear h
  go_enter Tryd.func22, Tryd.ntmps22
  go_wp2_with fail
  refine (number_any _ H.out hs6).mono ?_
  rintro e w1 ⟨rfl, rfl⟩
  go_wp2
  go_ret
  exact ⟨rfl, rfl⟩


set_option maxHeartbeats 1000000 in
theorem take_head (w : World) (r hh : Array Value) (b off n cap : Nat) (zs : List Int) (h : BS w (some ⟨b, off, none⟩) n zs) (hcap : n ≤ cap) (hm : cap ≤ 9223372036854775807) (t s : Int) (ht : 0 ≤ t) (hs0 : 0 < s) (hs6 : s ≤ 6) (hts : t + s ≤ n) :
    Calls Tryd.prog 22 #[.int .i64 s, .pointer (some ⟨w.heap.size + 1 + 1 + 1, 0, none⟩), .pointer (some ⟨w.heap.size, 0, none⟩)]
      ((((w.alloc (.cells #[.slice (some ⟨b, off, none⟩) n cap] 22)).alloc (.cells r 25)).alloc (.cells hh 25)).alloc (.cells #[.int .i64 t] 3))
      fun e w' => e = .returned (.int .u64 (num ((zs.drop t.toNat).take s.toNat))) ∧ w' = ((((w.alloc (.cells #[.slice (some ⟨b, off, none⟩) n cap] 22)).alloc (.cells r 25)).alloc (.cells hh 25)).alloc (.cells #[.int .i64 (t + s)] 3)) := by
  obtain ⟨t, rfl⟩ := Int.eq_ofNat_of_zero_le ht
  obtain ⟨s, rfl⟩ := Int.eq_ofNat_of_zero_le (show 0 ≤ s by omega)
  have hbl : b < w.heap.size := by
    rcases h.cells with h0 | ⟨b', off', e, hc⟩
    · omega
    · cases e
      exact cell_lt (hc 0 (by have := h.len; omega))
  have hB : Below w.heap.size w ((((w.alloc (.cells #[.slice (some ⟨b, off, none⟩) n cap] 22)).alloc (.cells r 25)).alloc (.cells hh 25)).alloc (.cells #[.int .i64 t] 3)) := ((((Below.refl _ _).alloc (Nat.le_refl _) _).alloc (by simp) _).alloc (by simp; omega) _).alloc (by simp; omega) _
  refine (take_any _ (w.heap.size + 1 + 1 + 1) w.heap.size b off n cap t s zs ?_ ?_ ?_ (by omega) (by omega) (h.below hB) (by omega) (by omega) (by omega) hcap hm).mono ?_
  · simp [go_sem]
  · simp [go_sem]
  · simp [go_sem]
  · rintro e w' ⟨rfl, rfl⟩
    refine ⟨rfl, ?_⟩
    rw [World.setCell_alloc_at _ _ _ _ _ (by simp)]
    rfl


def ethV (d s : Int) (tg : Bool) (tag ty n e : Int) : Value := .tuple #[.agg #[.int .u64 d, .int .u64 s, .bool tg, .int .i64 tag, .int .i64 ty], .int .i64 n, .int .i64 e]


theorem below1 (w : World) (a : Obj) : Below w.heap.size w (w.alloc a) := (Below.refl _ _).alloc (Nat.le_refl _) _
theorem below2 (w : World) (a b : Obj) : Below w.heap.size w ((w.alloc a).alloc b) := (below1 w a).alloc (by simp) _
theorem below3 (w : World) (a b c : Obj) : Below w.heap.size w (((w.alloc a).alloc b).alloc c) := (below2 w a b).alloc (by simp; omega) _
theorem below4 (w : World) (a b c d : Obj) : Below w.heap.size w ((((w.alloc a).alloc b).alloc c).alloc d) := (below3 w a b c).alloc (by simp; omega) _

set_option maxHeartbeats 1000000 in
theorem head_plain (w : World) (b off n cap : Nat) (zs : List Int) (h : BS w (some ⟨b, off, none⟩) n zs) (hcap : n ≤ cap) (hm : cap ≤ 9223372036854775807) (h14 : 14 ≤ n) (h9 : n ≤ 9018) (hT : num ((zs.drop 12).take 2) ≠ 33024) :
    Calls Tryd.prog 9 #[.slice (some ⟨b, off, none⟩) n cap] w fun e w' => e = .returned (ethV (num (zs.take 6)) (num ((zs.drop 6).take 6)) false 0 (num ((zs.drop 12).take 2)) 14 0) ∧ Below w.heap.size w w' := by
  have h1 : ¬ (9018 : Int) < n := by omega
  have h2 : ¬ (n : Int) < 14 := by omega
  have hTb := num_bd2 ((h.drop (by omega) 12 (by omega)).take 2 (by omega))
  have hT' : (num ((zs.drop 12).take 2) != 33024) = true := by simp [hT]
  clear hT
  have H : Hid _ := h
  clear h
  go_enter Tryd.func9, Tryd.ntmps9
  go_wp2_with fail
  refine scope_from ?_
  go_wp2_with (go_at_call 22; refine (take_head w _ _ b off n cap zs H.out hcap hm _ _ (by omega) (by omega) (by omega) (by omega)).mono ?_; rintro e w1 ⟨rfl, rfl⟩)
  go_step3
  go_wp2_with (go_at_call 22; refine (take_head w _ _ b off n cap zs H.out hcap hm _ _ (by omega) (by omega) (by omega) (by omega)).mono ?_; rintro e w1 ⟨rfl, rfl⟩)
  go_region
  go_wp2
  simp only [Exit.jumpTo]
  refine bodyPost_ret (v := ethV (num (zs.take 6)) (num ((zs.drop 6).take 6)) false 0 (num ((zs.drop 12).take 2)) 14 0) ?_ rfl ⟨rfl, (below4 w _ _ _ _).drew⟩
  simp [results, Tryd.results9, go_sem, ethV]

set_option maxHeartbeats 1000000 in
theorem head_short2 (w : World) (b off n cap : Nat) (zs : List Int) (h : BS w (some ⟨b, off, none⟩) n zs) (hcap : n ≤ cap) (hm : cap ≤ 9223372036854775807) (h14 : 14 ≤ n) (h9 : n < 18) (hT : num ((zs.drop 12).take 2) = 33024) :
    Calls Tryd.prog 9 #[.slice (some ⟨b, off, none⟩) n cap] w fun e w' => e = .returned (ethV 0 0 false 0 0 0 20) ∧ Below w.heap.size w w' := by
  have h1 : ¬ (9018 : Int) < n := by omega
  have h2 : ¬ (n : Int) < 14 := by omega
  have hTb := num_bd2 ((h.drop (by omega) 12 (by omega)).take 2 (by omega))
  have hT' : (num ((zs.drop 12).take 2) != 33024) = false := by simp [hT]
  have h3 : (n : Int) < 18 := by omega
  clear hT
  have H : Hid _ := h
  clear h
  go_enter Tryd.func9, Tryd.ntmps9
  go_wp2_with fail
  refine scope_from ?_
  go_wp2_with (go_at_call 22; refine (take_head w _ _ b off n cap zs H.out hcap hm _ _ (by omega) (by omega) (by omega) (by omega)).mono ?_; rintro e w1 ⟨rfl, rfl⟩)
  go_step3
  go_wp2_with (go_at_call 22; refine (take_head w _ _ b off n cap zs H.out hcap hm _ _ (by omega) (by omega) (by omega) (by omega)).mono ?_; rintro e w1 ⟨rfl, rfl⟩)
  go_step3
  show FromLabel _ _ _ _ _ _
  refine from_label rfl ?_
  go_wp2
  simp only [Exit.jumpTo]
  refine bodyPost_ret (v := ethV 0 0 false 0 0 0 20) ?_ rfl ⟨rfl, (below4 w _ _ _ _)⟩
  simp [results, Tryd.results9, go_sem, ethV]

set_option maxHeartbeats 1000000 in
theorem head_twice (w : World) (b off n cap : Nat) (zs : List Int) (h : BS w (some ⟨b, off, none⟩) n zs) (hcap : n ≤ cap) (hm : cap ≤ 9223372036854775807) (h14 : 18 ≤ n) (h9 : n ≤ 9018) (hT : num ((zs.drop 12).take 2) = 33024) (hU : num ((zs.drop 16).take 2) = 33024) :
    Calls Tryd.prog 9 #[.slice (some ⟨b, off, none⟩) n cap] w fun e w' => e = .returned (ethV 0 0 false 0 0 0 21) ∧ Below w.heap.size w w' := by
  have h1 : ¬ (9018 : Int) < n := by omega
  have h2 : ¬ (n : Int) < 14 := by omega
  have hTb := num_bd2 ((h.drop (by omega) 12 (by omega)).take 2 (by omega))
  have hT' : (num ((zs.drop 12).take 2) != 33024) = false := by simp [hT]
  have h3 : ¬ (n : Int) < 18 := by omega
  have hGb := num_bd2 ((h.drop (by omega) 14 (by omega)).take 2 (by omega))
  have hUb := num_bd2 ((h.drop (by omega) 16 (by omega)).take 2 (by omega))
  clear hT
  have hU' : (num ((zs.drop 16).take 2) != 33024) = false := by simp [hU]
  clear hU
  have H : Hid _ := h
  clear h
  go_enter Tryd.func9, Tryd.ntmps9
  go_wp2_with fail
  refine scope_from ?_
  go_wp2_with (go_at_call 22; refine (take_head w _ _ b off n cap zs H.out hcap hm _ _ (by omega) (by omega) (by omega) (by omega)).mono ?_; rintro e w1 ⟨rfl, rfl⟩)
  go_step3
  go_wp2_with (go_at_call 22; refine (take_head w _ _ b off n cap zs H.out hcap hm _ _ (by omega) (by omega) (by omega) (by omega)).mono ?_; rintro e w1 ⟨rfl, rfl⟩)
  go_step3
  show FromLabel _ _ _ _ _ _
  refine from_label rfl ?_
  go_wp2_with (go_at_call 22; refine (take_head w _ _ b off n cap zs H.out hcap hm _ _ (by omega) (by omega) (by omega) (by omega)).mono ?_; rintro e w1 ⟨rfl, rfl⟩)
  go_step3
  show FromLabel _ _ _ _ _ _
  refine from_label rfl ?_
  go_wp2
  simp only [Exit.jumpTo]
  refine bodyPost_ret (v := ethV 0 0 false 0 0 0 21) ?_ rfl ⟨rfl, (below4 w _ _ _ _)⟩
  simp [results, Tryd.results9, go_sem, ethV]

set_option maxHeartbeats 1000000 in
theorem head_tagged (w : World) (b off n cap : Nat) (zs : List Int) (h : BS w (some ⟨b, off, none⟩) n zs) (hcap : n ≤ cap) (hm : cap ≤ 9223372036854775807) (h14 : 18 ≤ n) (h9 : n ≤ 9018) (hT : num ((zs.drop 12).take 2) = 33024) (hU : num ((zs.drop 16).take 2) ≠ 33024) :
    Calls Tryd.prog 9 #[.slice (some ⟨b, off, none⟩) n cap] w fun e w' => e = .returned (ethV (num (zs.take 6)) (num ((zs.drop 6).take 6)) true (num ((zs.drop 14).take 2)) (num ((zs.drop 16).take 2)) 18 0) ∧ Below w.heap.size w w' := by
  have h1 : ¬ (9018 : Int) < n := by omega
  have h2 : ¬ (n : Int) < 14 := by omega
  have hTb := num_bd2 ((h.drop (by omega) 12 (by omega)).take 2 (by omega))
  have hT' : (num ((zs.drop 12).take 2) != 33024) = false := by simp [hT]
  have h3 : ¬ (n : Int) < 18 := by omega
  have hGb := num_bd2 ((h.drop (by omega) 14 (by omega)).take 2 (by omega))
  have hUb := num_bd2 ((h.drop (by omega) 16 (by omega)).take 2 (by omega))
  clear hT
  have hU' : (num ((zs.drop 16).take 2) != 33024) = true := by simp [hU]
  clear hU
  have H : Hid _ := h
  clear h
  go_enter Tryd.func9, Tryd.ntmps9
  go_wp2_with fail
  refine scope_from ?_
  go_wp2_with (go_at_call 22; refine (take_head w _ _ b off n cap zs H.out hcap hm _ _ (by omega) (by omega) (by omega) (by omega)).mono ?_; rintro e w1 ⟨rfl, rfl⟩)
  go_step3
  go_wp2_with (go_at_call 22; refine (take_head w _ _ b off n cap zs H.out hcap hm _ _ (by omega) (by omega) (by omega) (by omega)).mono ?_; rintro e w1 ⟨rfl, rfl⟩)
  go_step3
  show FromLabel _ _ _ _ _ _
  refine from_label rfl ?_
  go_wp2_with (go_at_call 22; refine (take_head w _ _ b off n cap zs H.out hcap hm _ _ (by omega) (by omega) (by omega) (by omega)).mono ?_; rintro e w1 ⟨rfl, rfl⟩)
  go_region
  go_wp2
  simp only [Exit.jumpTo]
  refine bodyPost_ret (v := ethV (num (zs.take 6)) (num ((zs.drop 6).take 6)) true (num ((zs.drop 14).take 2)) (num ((zs.drop 16).take 2)) 18 0) ?_ rfl ⟨rfl, (below4 w _ _ _ _).drew⟩
  simp [results, Tryd.results9, go_sem, ethV]

set_option maxHeartbeats 1000000 in
theorem head_long (w : World) (a : Option Addr) (n cap : Nat) (h9 : 9018 < n) :
    Calls Tryd.prog 9 #[.slice a n cap] w fun e w' => e = .returned (ethV 0 0 false 0 0 0 3) ∧ Below w.heap.size w w' := by
  have h1 : (9018 : Int) < n := by omega
  go_enter Tryd.func9, Tryd.ntmps9
  go_wp2_with fail
  refine scope_from ?_
  go_wp2
  go_step3
  show FromLabel _ _ _ _ _ _
  refine from_label rfl ?_
  go_wp2
  simp only [Exit.jumpTo]
  refine bodyPost_ret (v := ethV 0 0 false 0 0 0 3) ?_ rfl ⟨rfl, (below4 w _ _ _ _)⟩
  simp [results, Tryd.results9, go_sem, ethV]

set_option maxHeartbeats 1000000 in
theorem head_short (w : World) (a : Option Addr) (n cap : Nat) (h9 : n < 14) :
    Calls Tryd.prog 9 #[.slice a n cap] w fun e w' => e = .returned (ethV 0 0 false 0 0 0 20) ∧ Below w.heap.size w w' := by
  have h1 : ¬ (9018 : Int) < n := by omega
  have h2 : (n : Int) < 14 := by omega
  go_enter Tryd.func9, Tryd.ntmps9
  go_wp2_with fail
  refine scope_from ?_
  go_wp2
  go_step3
  show FromLabel _ _ _ _ _ _
  refine from_label rfl ?_
  go_wp2
  simp only [Exit.jumpTo]
  refine bodyPost_ret (v := ethV 0 0 false 0 0 0 20) ?_ rfl ⟨rfl, (below4 w _ _ _ _)⟩
  simp [results, Tryd.results9, go_sem, ethV]
end Go.Proofs.YthodjgaaojmihaaDoor.Eth
