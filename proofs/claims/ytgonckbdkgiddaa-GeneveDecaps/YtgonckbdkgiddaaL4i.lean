/- What take, isSumRight and read of package l4 answer of opaque, ICMP and UDP packets. Condition: a slice of at most 2^47 bytes. -/
import Derived.Test.YtgonckbdkgiddaaL4h
namespace Go.Proofs.Ytgonckbdkgiddaa
open Go.RowKit

theorem num_bd4 {w : World} {a : Option Addr} {n : Nat} {zs : List Int} (h : BS w a n zs) (hn : n ≤ 4) : 0 ≤ num zs ∧ num zs ≤ 4294967295 := by
  have hl := h.len
  have := num_bd zs h.fits zs.length
  rw [List.take_length] at this
  have h2 : (256 : Int) ^ zs.length ≤ 4294967296 := by
    rw [hl]
    match n, hn with
    | 0, _ => decide
    | 1, _ => decide
    | 2, _ => decide
    | 3, _ => decide
    | 4, _ => decide
  omega

set_option maxHeartbeats 1000000 in
theorem take_any (W : World) (p q b off n cap t s : Nat) (zs : List Int) (hat : W.cell? ⟨p, 0, none⟩ = some (.int .i64 t)) (hfr : W.frozen? ⟨p, 0, none⟩ = false) (hbx : W.cell? ⟨q, 0, none⟩ = some (.slice (some ⟨b, off, none⟩) n cap)) (_hpq : p ≠ q) (_hpb : p ≠ b)
    (h : BS W (some ⟨b, off, none⟩) n zs) (hs0 : 0 < s) (hs4 : s ≤ 4) (hts : t + s ≤ n) (hcap : n ≤ cap) :
    Calls Try.prog 72 #[.int .i64 s, .pointer (some ⟨p, 0, none⟩), .pointer (some ⟨q, 0, none⟩)] W fun e w' => e = .returned (.int .i64 (num ((zs.drop t).take s))) ∧ w' = W.setCell ⟨p, 0, none⟩ (.int .i64 ((t : Int) + s)) := by
  have hbx' : (W.setCell ⟨p, 0, none⟩ (.int .i64 ((t : Int) + s))).cell? ⟨q, 0, none⟩ = some (.slice (some ⟨b, off, none⟩) n cap) := (World.cell?_setCell_other _ _ _ _ (by simp)).trans hbx
  have hat' : (W.setCell ⟨p, 0, none⟩ (.int .i64 ((t : Int) + s))).cell? ⟨p, 0, none⟩ = some (.int .i64 ((t : Int) + s)) := World.cell?_setCell_same _ _ _ hat
  have hle : (t : Int) + s ≤ cap := by omega
  have hne : ¬ cap = t := by omega
  have hs' : (s : Int) ≤ 4 := by omega
  have ht' : (t : Int) ≤ 281474976710656 := by have := h.room; omega
  have h1 := (h.drop (by omega) t (by omega)).take s (by omega)
  have hnb := num_bd4 h1 hs4
  have H : Hid (BS (W.setCell ⟨p, 0, none⟩ (.int .i64 ((t : Int) + s))) (some ⟨b, off + t, none⟩) s ((zs.drop t).take s)) := by
    refine ⟨h1.len, h1.fits, h1.room, ?_⟩
    rcases h1.cells with h0 | ⟨b', off', e, hc⟩
    · exact .inl h0
    · cases e
      exact .inr ⟨_, _, rfl, fun i hi => (World.cell?_setCell_other _ _ _ _ (by simp)).trans (hc i hi)⟩
  clear h h1
  go_enter Try.func72, Try.ntmps72
  go_wp2_with fail
  refine (number_any _ H.out (by omega)).mono ?_
  rintro e w1 ⟨rfl, rfl⟩
  go_wp2
  go_ret
  exact ⟨rfl, rfl⟩

set_option maxHeartbeats 1000000 in
theorem take_dec (w : World) (hh : Array Value) (q b off n cap : Nat) (zs : List Int) (h : BS w (some ⟨b, off, none⟩) n zs) (hq : q < w.heap.size) (hbx : w.cell? ⟨q, 0, none⟩ = some (.slice (some ⟨b, off, none⟩) n cap)) (hcap : n ≤ cap) (t s : Int) (ht : 0 ≤ t) (hs0 : 0 < s) (hs4 : s ≤ 4) (hts : t + s ≤ n) (B : Nat) (hB : B = w.heap.size + 1) :
    Calls Try.prog 72 #[.int .i64 s, .pointer (some ⟨B, 0, none⟩), .pointer (some ⟨q, 0, none⟩)]
      ((w.alloc (.cells hh 48)).alloc (.cells #[.int .i64 t] 3))
      fun e w' => e = .returned (.int .i64 (num ((zs.drop t.toNat).take s.toNat))) ∧ w' = ((w.alloc (.cells hh 48)).alloc (.cells #[.int .i64 (t + s)] 3)) := by
  subst hB
  obtain ⟨t, rfl⟩ := Int.eq_ofNat_of_zero_le ht
  obtain ⟨s, rfl⟩ := Int.eq_ofNat_of_zero_le (show 0 ≤ s by omega)
  have hbl : b < w.heap.size := by
    rcases h.cells with h0 | ⟨b', off', e, hc⟩
    · omega
    · cases e
      exact cell_lt (hc 0 (by have := h.len; omega))
  have hB : Below w.heap.size w ((w.alloc (.cells hh 48)).alloc (.cells #[.int .i64 t] 3)) := below2 w _ _
  refine (take_any _ (w.heap.size + 1) q b off n cap t s zs ?_ ?_ ?_ (by omega) (by omega) (h.below hB) (by omega) (by omega) (by omega) hcap).mono ?_
  · simp [go_sem]
  · simp [go_sem]
  · rw [hB.cell hq]; exact hbx
  · rintro e w' ⟨rfl, rfl⟩
    refine ⟨rfl, ?_⟩
    rw [World.setCell_alloc_at _ _ _ _ _ (by simp)]
    rfl


theorem right_udp (src dst : Int) (hs : 0 ≤ src ∧ src ≤ 4294967295) (ht : 0 ≤ dst ∧ dst ≤ 4294967295) (w : World) (b off n cap : Nat) (zs : List Int) (h : BS w (some ⟨b, off, none⟩) n zs) (hcap : n ≤ cap) (h8 : 8 ≤ n) (hne : zs.getD 6 0 * 256 + zs.getD 7 0 ≠ 0) :
    Calls Try.prog 59 #[.int .u32 src, .int .u32 dst, .int .i64 2, .slice (some ⟨b, off, none⟩) n cap] w fun e w' => e = .returned (.bool (sumV src dst 2 zs == 65535)) ∧ ∃ nq, w' = w.drewN nq := by
  have hl := h.len
  have hT : num ((zs.drop 6).take 2) = zs.getD 6 0 * 256 + zs.getD 7 0 := num_two zs 6 (by omega)
  have H : Hid _ := h
  clear h
  generalize zs.getD 6 0 * 256 + zs.getD 7 0 = T at *
  have hb : (T == 0) = false := by simp [hne]
  clear hne
  go_enter Try.func59, Try.ntmps59
  go_wp2_with (first
    | (go_at_call 71; refine (word_any _ b off n cap 6 zs H.out (by omega) hcap).mono ?_; rintro e w' ⟨rfl, rfl⟩; rw [hT])
    | (go_at_call 41; refine (sumOf_any src dst 2 hs ht _ H.out).mono ?_; rintro e w' ⟨rfl, nq, rfl⟩)
    | fail)
  go_ret
  exact ⟨rfl, _, rfl⟩

theorem right_opaque (src dst : Int) (w : World) (a : Option Addr) (n cap : Nat) :
    Calls Try.prog 59 #[.int .u32 src, .int .u32 dst, .int .i64 0, .slice a n cap] w fun e w' => e = .returned (.bool true) ∧ ∃ nq, w' = w.drewN nq := by
  go_enter Try.func59, Try.ntmps59
  go_wp2
  go_ret
  exact ⟨rfl, 0, rfl⟩

theorem right_udp0 (src dst : Int) (w : World) (b off n cap : Nat) (zs : List Int) (h : BS w (some ⟨b, off, none⟩) n zs) (hcap : n ≤ cap) (h8 : 8 ≤ n) (he : zs.getD 6 0 * 256 + zs.getD 7 0 = 0) :
    Calls Try.prog 59 #[.int .u32 src, .int .u32 dst, .int .i64 2, .slice (some ⟨b, off, none⟩) n cap] w fun e w' => e = .returned (.bool true) ∧ ∃ nq, w' = w.drewN nq := by
  have hl := h.len
  have hT : num ((zs.drop 6).take 2) = 0 := (num_two zs 6 (by omega)).trans he
  have H : Hid _ := h
  clear h
  go_enter Try.func59, Try.ntmps59
  go_wp2_with (first
    | (go_at_call 71; refine (word_any _ b off n cap 6 zs H.out (by omega) hcap).mono ?_; rintro e w' ⟨rfl, rfl⟩; rw [hT])
    | fail)
  go_ret
  exact ⟨rfl, 0, rfl⟩

theorem right_sum (k : Int) (hk : k = 1 ∨ k = 3) (src dst : Int) (hs : 0 ≤ src ∧ src ≤ 4294967295) (ht : 0 ≤ dst ∧ dst ≤ 4294967295) (w : World) (a : Option Addr) (n cap : Nat) (zs : List Int) (h : BS w a n zs) :
    Calls Try.prog 59 #[.int .u32 src, .int .u32 dst, .int .i64 k, .slice a n cap] w fun e w' => e = .returned (.bool (sumV src dst k zs == 65535)) ∧ ∃ nq, w' = w.drewN nq := by
  have H : Hid _ := h
  clear h
  rcases hk with rfl | rfl
  · go_enter Try.func59, Try.ntmps59
    go_wp2_with (first
      | (go_at_call 41; refine (sumOf_any src dst 1 hs ht _ H.out).mono ?_; rintro e w' ⟨rfl, nq, rfl⟩)
      | fail)
    go_ret
    exact ⟨rfl, _, rfl⟩
  · go_enter Try.func59, Try.ntmps59
    go_wp2_with (first
      | (go_at_call 41; refine (sumOf_any src dst 3 hs ht _ H.out).mono ?_; rintro e w' ⟨rfl, nq, rfl⟩)
      | fail)
    go_ret
    exact ⟨rfl, _, rfl⟩

set_option maxHeartbeats 2000000 in
theorem read_icmp (w : World) (b off n cap : Nat) (zs : List Int) (h : BS w (some ⟨b, off, none⟩) n zs) (hcap : n ≤ cap) (h8 : 8 ≤ n) (h0 : 0 < n) :
    Calls Try.prog 60 #[.int .i64 1, .slice (some ⟨b, off, none⟩) n cap] w fun e w' => e = .returned (.agg #[.int .i64 1, .int .i64 (num ((zs.drop 0).take 1)), .int .i64 (num ((zs.drop 1).take 1)), .int .u32 (num ((zs.drop 4).take 4)), .int .i64 0, .int .i64 0, .bool false, .int .u32 0, .int .u32 0, .int .i64 0, .int .i64 0, .int .i64 0, .string ⟨#[]⟩, .string (strOfNums (zs.drop 8))]) ∧ ∃ A B C D, w' = (((w.alloc A).alloc B).alloc C).alloc D := by
  have hl := h.len
  have hn8 : (8 : Int) ≤ n := by omega
  have hnc : (n : Int) ≤ cap := by omega
  have hr : IntKind.u32.wrap (num ((zs.drop 4).take 4)) = num ((zs.drop 4).take 4) := by
    have := num_bd4 ((h.drop h0 4 (by omega)).take 4 (by omega)) (by omega)
    rw [IntKind.wrap_u32]; omega
  have hr0 := num_bd4 ((h.drop h0 4 (by omega)).take 4 (by omega)) (by omega)
  have H : Hid (BS ((w.alloc (.cells #[.slice (some ⟨b, off, none⟩) n cap] 26)).alloc (.cells #[.int .i64 0, .int .i64 0, .int .i64 0, .int .u32 0, .int .i64 0, .int .i64 0, .bool false, .int .u32 0, .int .u32 0, .int .i64 0, .int .i64 0, .int .i64 0, .string ⟨#[]⟩, .string ⟨#[]⟩] 48)) (some ⟨b, off, none⟩) n zs) := h.below (below2 w _ _)
  clear h
  rcases (by omega : ¬ cap = 8 ∨ cap = 8) with hc8 | hc8
  · have cv : ∀ (hh : Array Value) (t : Int), (convert 26 9 (.slice (some ⟨b, off + 8, none⟩) (n - 8) (cap - 8))).run Try.prog ((((w.alloc (.cells #[.slice (some ⟨b, off, none⟩) n cap] 26)).alloc (.cells #[.int .i64 0, .int .i64 0, .int .i64 0, .int .u32 0, .int .i64 0, .int .i64 0, .bool false, .int .u32 0, .int .u32 0, .int .i64 0, .int .i64 0, .int .i64 0, .string ⟨#[]⟩, .string ⟨#[]⟩] 48)).alloc (.cells hh 48)).alloc (.cells #[.int .i64 t] 3)) = .ok (.string (strOfNums (zs.drop 8))) ((((w.alloc (.cells #[.slice (some ⟨b, off, none⟩) n cap] 26)).alloc (.cells #[.int .i64 0, .int .i64 0, .int .i64 0, .int .u32 0, .int .i64 0, .int .i64 0, .bool false, .int .u32 0, .int .u32 0, .int .i64 0, .int .i64 0, .int .i64 0, .string ⟨#[]⟩, .string ⟨#[]⟩] 48)).alloc (.cells hh 48)).alloc (.cells #[.int .i64 t] 3)) := fun hh t =>
      run_conv_bs _ ((H.out.drop (by omega) 8 (by omega)).below (below2 _ _ _)) 26 9 5 Try.underlying26 Try.underlying5 Try.underlying9
    go_enter Try.func60, Try.ntmps60
    go_wp2_with (go_at_call 72; refine (take_dec _ _ w.heap.size b off n cap zs H.out (by simp; omega) (by simp [go_sem]) hcap _ _ (by omega) (by omega) (by omega) (by omega) _ (by simp)).mono ?_; rintro e w1 ⟨rfl, rfl⟩)
    refine bodyPost_ret (v := .agg #[.int .i64 1, .int .i64 (num ((zs.drop 0).take 1)), .int .i64 (num ((zs.drop 1).take 1)), .int .u32 (num ((zs.drop 4).take 4)), .int .i64 0, .int .i64 0, .bool false, .int .u32 0, .int .u32 0, .int .i64 0, .int .i64 0, .int .i64 0, .string ⟨#[]⟩, .string (strOfNums (zs.drop 8))]) ?_ rfl ⟨rfl, ?_⟩
    · simp [results, Try.results60, go_sem]
    · exact ⟨_, _, _, _, rfl⟩
  · obtain rfl : n = 8 := by omega
    subst hc8
    have hz : zs.drop 8 = [] := List.drop_eq_nil_of_le (by omega)
    rw [hz]
    have cv : ∀ (hh : Array Value) (t : Int), (convert 26 9 (.slice (some ⟨b, off, none⟩) 0 0)).run Try.prog ((((w.alloc (.cells #[.slice (some ⟨b, off, none⟩) 8 8] 26)).alloc (.cells #[.int .i64 0, .int .i64 0, .int .i64 0, .int .u32 0, .int .i64 0, .int .i64 0, .bool false, .int .u32 0, .int .u32 0, .int .i64 0, .int .i64 0, .int .i64 0, .string ⟨#[]⟩, .string ⟨#[]⟩] 48)).alloc (.cells hh 48)).alloc (.cells #[.int .i64 t] 3)) = .ok (.string (strOfNums ([]))) ((((w.alloc (.cells #[.slice (some ⟨b, off, none⟩) 8 8] 26)).alloc (.cells #[.int .i64 0, .int .i64 0, .int .i64 0, .int .u32 0, .int .i64 0, .int .i64 0, .bool false, .int .u32 0, .int .u32 0, .int .i64 0, .int .i64 0, .int .i64 0, .string ⟨#[]⟩, .string ⟨#[]⟩] 48)).alloc (.cells hh 48)).alloc (.cells #[.int .i64 t] 3)) := fun hh t =>
      run_conv_bs _ (BS.empty _) 26 9 5 Try.underlying26 Try.underlying5 Try.underlying9
    go_enter Try.func60, Try.ntmps60
    go_wp2_with (go_at_call 72; refine (take_dec _ _ w.heap.size b off 8 8 zs H.out (by simp; omega) (by simp [go_sem]) (Nat.le_refl _) _ _ (by omega) (by omega) (by omega) (by omega) _ (by simp)).mono ?_; rintro e w1 ⟨rfl, rfl⟩)
    refine bodyPost_ret (v := .agg #[.int .i64 1, .int .i64 (num ((zs.drop 0).take 1)), .int .i64 (num ((zs.drop 1).take 1)), .int .u32 (num ((zs.drop 4).take 4)), .int .i64 0, .int .i64 0, .bool false, .int .u32 0, .int .u32 0, .int .i64 0, .int .i64 0, .int .i64 0, .string ⟨#[]⟩, .string (strOfNums ([]))]) ?_ rfl ⟨rfl, ?_⟩
    · simp [results, Try.results60, go_sem]
    · exact ⟨_, _, _, _, rfl⟩
set_option maxHeartbeats 2000000 in
theorem read_udp (w : World) (b off n cap : Nat) (zs : List Int) (h : BS w (some ⟨b, off, none⟩) n zs) (hcap : n ≤ cap) (h8 : 8 ≤ n) (h0 : 0 < n) :
    Calls Try.prog 60 #[.int .i64 2, .slice (some ⟨b, off, none⟩) n cap] w fun e w' => e = .returned (.agg #[.int .i64 2, .int .i64 0, .int .i64 0, .int .u32 0, .int .i64 (num ((zs.drop 0).take 2)), .int .i64 (num ((zs.drop 2).take 2)), .bool (num ((zs.drop 6).take 2) == 0), .int .u32 0, .int .u32 0, .int .i64 0, .int .i64 0, .int .i64 0, .string ⟨#[]⟩, .string (strOfNums (zs.drop 8))]) ∧ ∃ A B C D, w' = (((w.alloc A).alloc B).alloc C).alloc D := by
  have hl := h.len
  have hn8 : (8 : Int) ≤ n := by omega
  have hnc : (n : Int) ≤ cap := by omega
  have H : Hid (BS ((w.alloc (.cells #[.slice (some ⟨b, off, none⟩) n cap] 26)).alloc (.cells #[.int .i64 0, .int .i64 0, .int .i64 0, .int .u32 0, .int .i64 0, .int .i64 0, .bool false, .int .u32 0, .int .u32 0, .int .i64 0, .int .i64 0, .int .i64 0, .string ⟨#[]⟩, .string ⟨#[]⟩] 48)) (some ⟨b, off, none⟩) n zs) := h.below (below2 w _ _)
  clear h
  rcases (by omega : ¬ cap = 8 ∨ cap = 8) with hc8 | hc8
  · have cv : ∀ (hh : Array Value) (t : Int), (convert 26 9 (.slice (some ⟨b, off + 8, none⟩) (n - 8) (cap - 8))).run Try.prog ((((w.alloc (.cells #[.slice (some ⟨b, off, none⟩) n cap] 26)).alloc (.cells #[.int .i64 0, .int .i64 0, .int .i64 0, .int .u32 0, .int .i64 0, .int .i64 0, .bool false, .int .u32 0, .int .u32 0, .int .i64 0, .int .i64 0, .int .i64 0, .string ⟨#[]⟩, .string ⟨#[]⟩] 48)).alloc (.cells hh 48)).alloc (.cells #[.int .i64 t] 3)) = .ok (.string (strOfNums (zs.drop 8))) ((((w.alloc (.cells #[.slice (some ⟨b, off, none⟩) n cap] 26)).alloc (.cells #[.int .i64 0, .int .i64 0, .int .i64 0, .int .u32 0, .int .i64 0, .int .i64 0, .bool false, .int .u32 0, .int .u32 0, .int .i64 0, .int .i64 0, .int .i64 0, .string ⟨#[]⟩, .string ⟨#[]⟩] 48)).alloc (.cells hh 48)).alloc (.cells #[.int .i64 t] 3)) := fun hh t =>
      run_conv_bs _ ((H.out.drop (by omega) 8 (by omega)).below (below2 _ _ _)) 26 9 5 Try.underlying26 Try.underlying5 Try.underlying9
    go_enter Try.func60, Try.ntmps60
    go_wp2_with (go_at_call 72; refine (take_dec _ _ w.heap.size b off n cap zs H.out (by simp; omega) (by simp [go_sem]) hcap _ _ (by omega) (by omega) (by omega) (by omega) _ (by simp)).mono ?_; rintro e w1 ⟨rfl, rfl⟩)
    refine bodyPost_ret (v := .agg #[.int .i64 2, .int .i64 0, .int .i64 0, .int .u32 0, .int .i64 (num ((zs.drop 0).take 2)), .int .i64 (num ((zs.drop 2).take 2)), .bool (num ((zs.drop 6).take 2) == 0), .int .u32 0, .int .u32 0, .int .i64 0, .int .i64 0, .int .i64 0, .string ⟨#[]⟩, .string (strOfNums (zs.drop 8))]) ?_ rfl ⟨rfl, ?_⟩
    · simp [results, Try.results60, go_sem]
    · exact ⟨_, _, _, _, rfl⟩
  · obtain rfl : n = 8 := by omega
    subst hc8
    have hz : zs.drop 8 = [] := List.drop_eq_nil_of_le (by omega)
    rw [hz]
    have cv : ∀ (hh : Array Value) (t : Int), (convert 26 9 (.slice (some ⟨b, off, none⟩) 0 0)).run Try.prog ((((w.alloc (.cells #[.slice (some ⟨b, off, none⟩) 8 8] 26)).alloc (.cells #[.int .i64 0, .int .i64 0, .int .i64 0, .int .u32 0, .int .i64 0, .int .i64 0, .bool false, .int .u32 0, .int .u32 0, .int .i64 0, .int .i64 0, .int .i64 0, .string ⟨#[]⟩, .string ⟨#[]⟩] 48)).alloc (.cells hh 48)).alloc (.cells #[.int .i64 t] 3)) = .ok (.string (strOfNums ([]))) ((((w.alloc (.cells #[.slice (some ⟨b, off, none⟩) 8 8] 26)).alloc (.cells #[.int .i64 0, .int .i64 0, .int .i64 0, .int .u32 0, .int .i64 0, .int .i64 0, .bool false, .int .u32 0, .int .u32 0, .int .i64 0, .int .i64 0, .int .i64 0, .string ⟨#[]⟩, .string ⟨#[]⟩] 48)).alloc (.cells hh 48)).alloc (.cells #[.int .i64 t] 3)) := fun hh t =>
      run_conv_bs _ (BS.empty _) 26 9 5 Try.underlying26 Try.underlying5 Try.underlying9
    go_enter Try.func60, Try.ntmps60
    go_wp2_with (go_at_call 72; refine (take_dec _ _ w.heap.size b off 8 8 zs H.out (by simp; omega) (by simp [go_sem]) (Nat.le_refl _) _ _ (by omega) (by omega) (by omega) (by omega) _ (by simp)).mono ?_; rintro e w1 ⟨rfl, rfl⟩)
    refine bodyPost_ret (v := .agg #[.int .i64 2, .int .i64 0, .int .i64 0, .int .u32 0, .int .i64 (num ((zs.drop 0).take 2)), .int .i64 (num ((zs.drop 2).take 2)), .bool (num ((zs.drop 6).take 2) == 0), .int .u32 0, .int .u32 0, .int .i64 0, .int .i64 0, .int .i64 0, .string ⟨#[]⟩, .string (strOfNums ([]))]) ?_ rfl ⟨rfl, ?_⟩
    · simp [results, Try.results60, go_sem]
    · exact ⟨_, _, _, _, rfl⟩
end Go.Proofs.Ytgonckbdkgiddaa
