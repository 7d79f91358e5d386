/- What Decode of package ip answers on any bytes. Condition: a slice of at most 2^47 bytes. -/
import Derived.Test.YtgonckbdkgiddaaIC
namespace Go.Proofs.Ytgonckbdkgiddaa.Ip
open Go.RowKit

theorem num_bd4 {w : World} {a : Option Addr} {n : Nat} {zs : List Int} (h : BS w a n zs) (hn : n ≤ 4) : 0 ≤ num zs ∧ num zs ≤ 4294967295 := by
  have hl := h.len
  have := num_bd zs h.fits zs.length
  rw [List.take_length] at this
  have h2 : (256 : Int) ^ zs.length ≤ 4294967296 := by
    rw [hl]
    match n, hn with
    | 0, _ => decide
    | 1, _ => decide
    | 2, _ => decide
    | 3, _ => decide
    | 4, _ => decide
  omega

set_option maxHeartbeats 1000000 in
theorem take_any (W : World) (p q b off n cap t s : Nat) (zs : List Int) (hat : W.cell? ⟨p, 0, none⟩ = some (.int .i64 t)) (hfr : W.frozen? ⟨p, 0, none⟩ = false) (hbx : W.cell? ⟨q, 0, none⟩ = some (.slice (some ⟨b, off, none⟩) n cap)) (_hpq : p ≠ q) (_hpb : p ≠ b)
    (h : BS W (some ⟨b, off, none⟩) n zs) (hs0 : 0 < s) (hs4 : s ≤ 4) (hts : t + s ≤ n) (hcap : n ≤ cap) :
    Calls Try.prog 56 #[.int .i64 s, .pointer (some ⟨p, 0, none⟩), .pointer (some ⟨q, 0, none⟩)] W fun e w' => e = .returned (.int .i64 (num ((zs.drop t).take s))) ∧ w' = W.setCell ⟨p, 0, none⟩ (.int .i64 ((t : Int) + s)) := by
  have hbx' : (W.setCell ⟨p, 0, none⟩ (.int .i64 ((t : Int) + s))).cell? ⟨q, 0, none⟩ = some (.slice (some ⟨b, off, none⟩) n cap) := (World.cell?_setCell_other _ _ _ _ (by simp)).trans hbx
  have hat' : (W.setCell ⟨p, 0, none⟩ (.int .i64 ((t : Int) + s))).cell? ⟨p, 0, none⟩ = some (.int .i64 ((t : Int) + s)) := World.cell?_setCell_same _ _ _ hat
  have hle : (t : Int) + s ≤ cap := by omega
  have hne : ¬ cap = t := by omega
  have hs' : (s : Int) ≤ 4 := by omega
  have ht' : (t : Int) ≤ 140737488355328 := by have := h.room; omega
  have h1 := (h.drop (by omega) t (by omega)).take s (by omega)
  have hnb := num_bd4 h1 hs4
  have H : Hid (BS (W.setCell ⟨p, 0, none⟩ (.int .i64 ((t : Int) + s))) (some ⟨b, off + t, none⟩) s ((zs.drop t).take s)) := by
    refine ⟨h1.len, h1.fits, h1.room, ?_⟩
    rcases h1.cells with h0 | ⟨b', off', e, hc⟩
    · exact .inl h0
    · cases e
      exact .inr ⟨_, _, rfl, fun i hi => (World.cell?_setCell_other _ _ _ _ (by simp)).trans (hc i hi)⟩
  clear h h1
  go_enter Try.func56, Try.ntmps56
  go_wp2_with fail
  refine (number_any _ H.out (by omega)).mono ?_
  rintro e w1 ⟨rfl, rfl⟩
  go_wp2
  go_ret
  exact ⟨rfl, rfl⟩

set_option maxHeartbeats 1000000 in
theorem take_dec (w : World) (hh : Array Value) (q b off n cap : Nat) (zs : List Int) (h : BS w (some ⟨b, off, none⟩) n zs) (hq : q < w.heap.size) (hbx : w.cell? ⟨q, 0, none⟩ = some (.slice (some ⟨b, off, none⟩) n cap)) (hcap : n ≤ cap) (t s : Int) (ht : 0 ≤ t) (hs0 : 0 < s) (hs4 : s ≤ 4) (hts : t + s ≤ n) (B : Nat) (hB : B = w.heap.size + 1) :
    Calls Try.prog 56 #[.int .i64 s, .pointer (some ⟨B, 0, none⟩), .pointer (some ⟨q, 0, none⟩)]
      ((w.alloc (.cells hh 51)).alloc (.cells #[.int .i64 t] 3))
      fun e w' => e = .returned (.int .i64 (num ((zs.drop t.toNat).take s.toNat))) ∧ w' = ((w.alloc (.cells hh 51)).alloc (.cells #[.int .i64 (t + s)] 3)) := by
  subst hB
  obtain ⟨t, rfl⟩ := Int.eq_ofNat_of_zero_le ht
  obtain ⟨s, rfl⟩ := Int.eq_ofNat_of_zero_le (show 0 ≤ s by omega)
  have hbl : b < w.heap.size := by
    rcases h.cells with h0 | ⟨b', off', e, hc⟩
    · omega
    · cases e
      exact cell_lt (hc 0 (by have := h.len; omega))
  have hB : Below w.heap.size w ((w.alloc (.cells hh 51)).alloc (.cells #[.int .i64 t] 3)) := below2 w _ _
  refine (take_any _ (w.heap.size + 1) q b off n cap t s zs ?_ ?_ ?_ (by omega) (by omega) (h.below hB) (by omega) (by omega) (by omega) hcap).mono ?_
  · simp [go_sem]
  · simp [go_sem]
  · rw [hB.cell hq]; exact hbx
  · rintro e w' ⟨rfl, rfl⟩
    refine ⟨rfl, ?_⟩
    rw [World.setCell_alloc_at _ _ _ _ _ (by simp)]
    rfl

def decV (zs : List Int) : Value := if (msr zs zs.length).2.2 = 0 then .tuple #[ipF zs (msr zs zs.length).1.toNat, .int .i64 (msr zs zs.length).1, .int .i64 (msr zs zs.length).2.1, .int .i64 0] else .tuple #[ip0, .int .i64 0, .int .i64 0, .int .i64 (msr zs zs.length).2.2]

/-- measure in a world with two new blocks: the draws come first. -/
theorem measure_two (w : World) (A B : Obj) (a : Option Addr) (n cap : Nat) (zs : List Int) (room : Int) (h : BS w a n zs) (hcap : n ≤ cap) :
    Calls Try.prog 55 #[.slice a n cap, .int .i64 room] ((w.alloc A).alloc B) fun e w' => e = .returned (msrV (msr zs room)) ∧ ∃ w0 : World, w' = (w0.alloc A).alloc B ∧ w.heap.size = w0.heap.size ∧ BS w0 a n zs ∧ Below w0.heap.size w w0 := by
  refine (measure_any _ a n cap zs room (h.below (below2 w _ _)) hcap).mono ?_
  rintro e w1 ⟨rfl, nq, rfl⟩
  exact ⟨rfl, w.drewN nq, rfl, rfl, h.drewN nq, below_drewN (Below.refl _ _) nq⟩

set_option maxHeartbeats 2000000 in
theorem decode_no (w : World) (a : Option Addr) (n cap : Nat) (zs : List Int) (h : BS w a n zs) (hcap : n ≤ cap) (f : Int) (hf : f = 20 ∨ f = 21 ∨ f = 30) (hm : msr zs n = (0, 0, f)) :
    Calls Try.prog 24 #[.slice a n cap] w fun e w' => e = .returned (.tuple #[ip0, .int .i64 0, .int .i64 0, .int .i64 f]) ∧ Below w.heap.size w w' := by
  have hf0 : (f != 0) = true := by simp; omega
  go_enter Try.func24, Try.ntmps24
  go_wp2_with fail
  refine (measure_two w _ _ a n cap zs n h hcap).mono ?_
  rintro e w1 ⟨rfl, w0, rfl, hs, _, hB⟩
  rw [hm, hs]
  unfold msrV
  clear h hm
  go_wp2
  refine bodyPost_ret (v := .tuple #[ip0, .int .i64 0, .int .i64 0, .int .i64 f]) ?_ rfl ⟨rfl, ?_⟩
  · simp [results, Try.results24, go_sem, ip0]
  · rw [hs]; exact (hB.alloc (Nat.le_refl _) _).alloc (by simp) _
end Go.Proofs.Ytgonckbdkgiddaa.Ip
