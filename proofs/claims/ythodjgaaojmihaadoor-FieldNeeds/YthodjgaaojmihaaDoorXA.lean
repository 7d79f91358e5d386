/- What Arp of package eth and of the reference answers on any bytes. Condition: a slice whose room is below 2^63. -/
import Derived.Test.YthodjgaaojmihaaDoorXH
import Derived.Test.YthodjgaaojmihaaDoorXM
import Derived.Deep.RegionHeld3
import Derived.Deep.RegionWith
import Derived.Deep.DrawnRows
namespace Go.Proofs.YthodjgaaojmihaaDoor.Eth
open Go.RowKit

set_option maxHeartbeats 1000000 in
theorem takeA_any (W : World) (p q b off n cap t s : Nat) (zs : List Int) (hat : W.cell? ⟨p, 0, none⟩ = some (.int .i64 t)) (hfr : W.frozen? ⟨p, 0, none⟩ = false) (hbx : W.cell? ⟨q, 0, none⟩ = some (.slice (some ⟨b, off, none⟩) n cap)) (_hpq : p ≠ q) (_hpb : p ≠ b)
    (h : BS W (some ⟨b, off, none⟩) n zs) (hs0 : 0 < s) (hs6 : s ≤ 6) (hts : t + s ≤ n) (hcap : n ≤ cap) (hm : cap ≤ 9223372036854775807) :
    Calls Tryd.prog 24 #[.int .i64 s, .pointer (some ⟨p, 0, none⟩), .pointer (some ⟨q, 0, none⟩)] W fun e w' => e = .returned (.int .u64 (num ((zs.drop t).take s))) ∧ w' = W.setCell ⟨p, 0, none⟩ (.int .i64 ((t : Int) + s)) := by
  have hbx' : (W.setCell ⟨p, 0, none⟩ (.int .i64 ((t : Int) + s))).cell? ⟨q, 0, none⟩ = some (.slice (some ⟨b, off, none⟩) n cap) := (World.cell?_setCell_other _ _ _ _ (by simp)).trans hbx
  have hat' : (W.setCell ⟨p, 0, none⟩ (.int .i64 ((t : Int) + s))).cell? ⟨p, 0, none⟩ = some (.int .i64 ((t : Int) + s)) := World.cell?_setCell_same _ _ _ hat
  have hle : (t : Int) + s ≤ cap := by omega
  have hne : ¬ cap = t := by omega
  have hs' : (s : Int) ≤ 6 := by omega
  have ht' : (t : Int) ≤ 140737488355328 := by have := h.room; omega
  have H : Hid (BS (W.setCell ⟨p, 0, none⟩ (.int .i64 ((t : Int) + s))) (some ⟨b, off + t, none⟩) s ((zs.drop t).take s)) := by
    have h1 := (h.drop (by omega) t (by omega)).take s (by omega)
    refine ⟨h1.len, h1.fits, h1.room, ?_⟩
    rcases h1.cells with h0 | ⟨b', off', e, hc⟩
    · exact .inl h0
    · cases e
      exact .inr ⟨_, _, rfl, fun i hi => (World.cell?_setCell_other _ _ _ _ (by simp)).trans (hc i hi)⟩
  clear h
  go_enter Tryd.func24, Tryd.ntmps24
  go_wp2_with fail
  refine (number_any _ H.out hs6).mono ?_
  rintro e w1 ⟨rfl, rfl⟩
  go_wp2
  go_ret
  exact ⟨rfl, rfl⟩


set_option maxHeartbeats 1000000 in
theorem take_arp (w : World) (r hh : Array Value) (b off n cap : Nat) (zs : List Int) (h : BS w (some ⟨b, off, none⟩) n zs) (hcap : n ≤ cap) (hm : cap ≤ 9223372036854775807) (t s : Int) (ht : 0 ≤ t) (hs0 : 0 < s) (hs6 : s ≤ 6) (hts : t + s ≤ n) :
    Calls Tryd.prog 24 #[.int .i64 s, .pointer (some ⟨w.heap.size + 1 + 1 + 1, 0, none⟩), .pointer (some ⟨w.heap.size, 0, none⟩)]
      ((((w.alloc (.cells #[.slice (some ⟨b, off, none⟩) n cap] 22)).alloc (.cells r 28)).alloc (.cells hh 28)).alloc (.cells #[.int .i64 t] 3))
      fun e w' => e = .returned (.int .u64 (num ((zs.drop t.toNat).take s.toNat))) ∧ w' = ((((w.alloc (.cells #[.slice (some ⟨b, off, none⟩) n cap] 22)).alloc (.cells r 28)).alloc (.cells hh 28)).alloc (.cells #[.int .i64 (t + s)] 3)) := by
  obtain ⟨t, rfl⟩ := Int.eq_ofNat_of_zero_le ht
  obtain ⟨s, rfl⟩ := Int.eq_ofNat_of_zero_le (show 0 ≤ s by omega)
  have hbl : b < w.heap.size := by
    rcases h.cells with h0 | ⟨b', off', e, hc⟩
    · omega
    · cases e
      exact cell_lt (hc 0 (by have := h.len; omega))
  have hB : Below w.heap.size w ((((w.alloc (.cells #[.slice (some ⟨b, off, none⟩) n cap] 22)).alloc (.cells r 28)).alloc (.cells hh 28)).alloc (.cells #[.int .i64 t] 3)) := ((((Below.refl _ _).alloc (Nat.le_refl _) _).alloc (by simp) _).alloc (by simp; omega) _).alloc (by simp; omega) _
  refine (takeA_any _ (w.heap.size + 1 + 1 + 1) w.heap.size b off n cap t s zs ?_ ?_ ?_ (by omega) (by omega) (h.below hB) (by omega) (by omega) (by omega) hcap hm).mono ?_
  · simp [go_sem]
  · simp [go_sem]
  · simp [go_sem]
  · rintro e w' ⟨rfl, rfl⟩
    refine ⟨rfl, ?_⟩
    rw [World.setCell_alloc_at _ _ _ _ _ (by simp)]
    rfl



def arpV (op sha spa tha tpa e : Int) : Value := .tuple #[.agg #[.int .i64 op, .int .u64 sha, .int .u32 spa, .int .u64 tha, .int .u32 tpa], .int .i64 e]

/-- The bytes that an ARP packet begins with. -/
theorem form_iff (ys : List Int) (h : ∀ i, 0 ≤ ys.getD i 0 ∧ ys.getD i 0 ≤ 255) (hl : ys.length = 6) : num ys = 4429186564 ↔ ys = [0, 1, 8, 0, 6, 4] := by
  constructor
  · intro e
    have := be_num_k ys h 6 hl
    rw [e] at this
    rw [← this]; decide
  · rintro rfl; decide

theorem byte_inj {x y : Int} (hx : 0 ≤ x ∧ x ≤ 255) (hy : 0 ≤ y ∧ y ≤ 255) (h : UInt8.ofNat x.toNat = UInt8.ofNat y.toNat) : x = y := by
  have := congrArg UInt8.toNat h
  simp only [UInt8.toNat_ofNat'] at this
  omega
theorem bytes_inj {xs : List Int} : ∀ {ys : List Int}, (∀ i, 0 ≤ xs.getD i 0 ∧ xs.getD i 0 ≤ 255) → (∀ i, 0 ≤ ys.getD i 0 ∧ ys.getD i 0 ≤ 255) → (xs.map fun n => UInt8.ofNat n.toNat) = (ys.map fun n => UInt8.ofNat n.toNat) → xs = ys := by
  induction xs with
  | nil => intro ys _ _ h; cases ys with
    | nil => rfl
    | cons y ys => simp at h
  | cons x xs ih =>
    intro ys hx hy h
    cases ys with
    | nil => simp at h
    | cons y ys =>
      simp only [List.map_cons, List.cons.injEq] at h
      rw [show x = y from byte_inj (by simpa using hx 0) (by simpa using hy 0) h.1, ih (fun i => by simpa using hx (i + 1)) (fun i => by simpa using hy (i + 1)) h.2]
theorem form_b (ys : List Int) (h : ∀ i, 0 ≤ ys.getD i 0 ∧ ys.getD i 0 ≤ 255) (hl : ys.length = 6) : ((strOfNums ys).toList == [0, 1, 8, 0, 6, 4]) = decide (num ys = 4429186564) := by
  rw [ByteArray.toList_eq, strOfNums_data, show ([0, 1, 8, 0, 6, 4] : List UInt8) = ([0, 1, 8, 0, 6, 4] : List Int).map (fun n => UInt8.ofNat n.toNat) from by decide]
  by_cases e : ys = [0, 1, 8, 0, 6, 4]
  · subst e; decide
  · have h1 : ¬ num ys = 4429186564 := fun e2 => e ((form_iff ys h hl).1 e2)
    rw [decide_eq_false h1, beq_eq_false_iff_ne]
    intro e3
    refine e (bytes_inj h (fun i => ?_) e3)
    match i with
    | 0 | 1 | 2 | 3 | 4 | 5 => simp
    | i + 6 => simp

theorem num_bd4 {ys : List Int} (h : ∀ i, 0 ≤ ys.getD i 0 ∧ ys.getD i 0 ≤ 255) (hl : ys.length = 4) : 0 ≤ num ys ∧ num ys ≤ 4294967295 := by
  have := num_lt ys h
  rw [hl, show (256 : Int) ^ 4 = 4294967296 from by decide] at this
  omega

set_option maxHeartbeats 1000000 in
theorem arp_short (w : World) (a : Option Addr) (n cap : Nat) (h9 : n < 28) :
    Calls Tryd.prog 10 #[.slice a n cap] w fun e w' => e = .returned (arpV 0 0 0 0 0 20) ∧ Below w.heap.size w w' := by
  have h2 : (n : Int) < 28 := by omega
  go_enter Tryd.func10, Tryd.ntmps10
  go_wp2_with fail
  refine scope_from ?_
  go_wp2
  go_step3
  show FromLabel _ _ _ _ _ _
  refine from_label rfl ?_
  go_wp2
  simp only [Exit.jumpTo]
  refine bodyPost_ret (v := arpV 0 0 0 0 0 20) ?_ rfl ⟨rfl, (below4 w _ _ _ _)⟩
  simp [results, Tryd.results10, go_sem, arpV]

set_option maxHeartbeats 1000000 in
theorem arp_form (w : World) (b off n cap : Nat) (zs : List Int) (h : BS w (some ⟨b, off, none⟩) n zs) (hcap : n ≤ cap) (hm : cap ≤ 9223372036854775807) (h28 : 28 ≤ n) (hF : num (zs.take 6) ≠ 4429186564) :
    Calls Tryd.prog 10 #[.slice (some ⟨b, off, none⟩) n cap] w fun e w' => e = .returned (arpV 0 0 0 0 0 21) ∧ Below w.heap.size w w' := by
  have h2 : ¬ (n : Int) < 28 := by omega
  have h6 : (6 : Int) ≤ cap := by omega
  have hcv : ∀ o1 o2 o3 o4, (convert 22 9 (.slice (some ⟨b, off, none⟩) 6 cap)).run Tryd.prog ((((w.alloc o1).alloc o2).alloc o3).alloc o4) = .ok (.string (strOfNums (zs.take 6))) ((((w.alloc o1).alloc o2).alloc o3).alloc o4) := fun o1 o2 o3 o4 =>
    run_conv_bs _ ((h.take 6 (by omega)).below (below4 w o1 o2 o3 o4)) 22 9 5 Tryd.underlying22 Tryd.underlying5 Tryd.underlying9
  have hfm := form_b (zs.take 6) (h.take 6 (by omega)).fits (h.take 6 (by omega)).len
  rw [decide_eq_false hF] at hfm
  go_enter Tryd.func10, Tryd.ntmps10
  go_wp2_with fail
  refine scope_from ?_
  go_wp2
  go_step3
  show FromLabel _ _ _ _ _ _
  refine from_label rfl ?_
  go_wp2
  simp only [Exit.jumpTo]
  refine bodyPost_ret (v := arpV 0 0 0 0 0 21) ?_ rfl ⟨rfl, (below4 w _ _ _ _)⟩
  simp [results, Tryd.results10, go_sem, arpV]

set_option maxHeartbeats 2000000 in
theorem arp_ok (w : World) (b off n cap : Nat) (zs : List Int) (h : BS w (some ⟨b, off, none⟩) n zs) (hcap : n ≤ cap) (hm : cap ≤ 9223372036854775807) (h28 : 28 ≤ n) (hF : num (zs.take 6) = 4429186564) :
    Calls Tryd.prog 10 #[.slice (some ⟨b, off, none⟩) n cap] w fun e w' => e = .returned (arpV (num ((zs.drop 6).take 2)) (num ((zs.drop 8).take 6)) (num ((zs.drop 14).take 4)) (num ((zs.drop 18).take 6)) (num ((zs.drop 24).take 4)) 0) ∧ Below w.heap.size w w' := by
  have h2 : ¬ (n : Int) < 28 := by omega
  have h6 : (6 : Int) ≤ cap := by omega
  have hcv : ∀ o1 o2 o3 o4, (convert 22 9 (.slice (some ⟨b, off, none⟩) 6 cap)).run Tryd.prog ((((w.alloc o1).alloc o2).alloc o3).alloc o4) = .ok (.string (strOfNums (zs.take 6))) ((((w.alloc o1).alloc o2).alloc o3).alloc o4) := fun o1 o2 o3 o4 =>
    run_conv_bs _ ((h.take 6 (by omega)).below (below4 w o1 o2 o3 o4)) 22 9 5 Tryd.underlying22 Tryd.underlying5 Tryd.underlying9
  have hfm := form_b (zs.take 6) (h.take 6 (by omega)).fits (h.take 6 (by omega)).len
  rw [decide_eq_true hF] at hfm
  have b2 := num_bd2 ((h.drop (by omega) 6 (by omega)).take 2 (by omega))
  have b4 := num_bd4 ((h.drop (by omega) 14 (by omega)).take 4 (by omega)).fits (by simp; have := h.len; omega)
  have b5 := num_bd4 ((h.drop (by omega) 24 (by omega)).take 4 (by omega)).fits (by simp; have := h.len; omega)
  have H : Hid _ := h
  clear h hF
  go_enter Tryd.func10, Tryd.ntmps10
  go_wp2_with fail
  refine scope_from ?_
  go_wp2_with (go_at_call 24; refine (take_arp w _ _ b off n cap zs H.out hcap hm _ _ (by omega) (by omega) (by omega) (by omega)).mono ?_; rintro e w1 ⟨rfl, rfl⟩)
  simp only [Exit.jumpTo]
  refine bodyPost_ret (v := arpV (num ((zs.drop 6).take 2)) (num ((zs.drop 8).take 6)) (num ((zs.drop 14).take 4)) (num ((zs.drop 18).take 6)) (num ((zs.drop 24).take 4)) 0) ?_ rfl ⟨rfl, (below4 w _ _ _ _)⟩
  simp [results, Tryd.results10, go_sem, arpV]

attribute [local go_sem ↓] Go.wp_at_zero Go.wp_at_succ
/-- What an ARP packet is. -/
def arpOf (zs : List Int) : Value :=
  if zs.length < 28 then arpV 0 0 0 0 0 20
  else if num (zs.take 6) ≠ 4429186564 then arpV 0 0 0 0 0 21
  else arpV (num ((zs.drop 6).take 2)) (num ((zs.drop 8).take 6)) (num ((zs.drop 14).take 4)) (num ((zs.drop 18).take 6)) (num ((zs.drop 24).take 4)) 0

theorem arp_any {w : World} {a : Option Addr} {n : Nat} (cap : Nat) {zs : List Int} (h : BS w a n zs) (hcap : n ≤ cap) (hm : cap ≤ 9223372036854775807) :
    Calls Tryd.prog 10 #[.slice a n cap] w fun e w' => e = .returned (arpOf zs) ∧ Below w.heap.size w w' := by
  have hl := h.len
  unfold arpOf
  rw [hl]
  by_cases h2 : n < 28
  · rw [if_pos h2]; exact arp_short w a n cap h2
  rw [if_neg h2]
  obtain ⟨b, off, rfl, _⟩ := h.cells.resolve_left (by omega)
  by_cases h3 : num (zs.take 6) ≠ 4429186564
  · rw [if_pos h3]; exact arp_form w b off n cap zs h hcap hm (by omega) h3
  · rw [if_neg h3]; exact arp_ok w b off n cap zs h hcap hm (by omega) (Classical.not_not.1 h3)

end Go.Proofs.YthodjgaaojmihaaDoor.Eth
