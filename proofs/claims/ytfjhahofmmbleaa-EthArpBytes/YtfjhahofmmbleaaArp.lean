/- What Arp of package eth and of the reference answers on any bytes. Condition: a slice whose room is below 2^63. -/
import Derived.Test.YtfjhahofmmbleaaArgs
import Derived.Deep.RegionHeld3
import Derived.Deep.RegionWith
import Derived.Deep.DrawnRows
namespace Go.Proofs.Ytfjhahofmmbleaa
open Go.RowKit

set_option maxHeartbeats 1000000 in
theorem takeA_any (W : World) (p q b off n cap t s : Nat) (zs : List Int) (hat : W.cell? ⟨p, 0, none⟩ = some (.int .i64 t)) (hfr : W.frozen? ⟨p, 0, none⟩ = false) (hbx : W.cell? ⟨q, 0, none⟩ = some (.slice (some ⟨b, off, none⟩) n cap)) (_hpq : p ≠ q) (_hpb : p ≠ b)
    (h : BS W (some ⟨b, off, none⟩) n zs) (hs0 : 0 < s) (hs6 : s ≤ 6) (hts : t + s ≤ n) (hcap : n ≤ cap) (hm : cap ≤ 9223372036854775807) :
    Calls Try.prog 26 #[.int .i64 s, .pointer (some ⟨p, 0, none⟩), .pointer (some ⟨q, 0, none⟩)] W fun e w' => e = .returned (.int .u64 (num ((zs.drop t).take s))) ∧ w' = W.setCell ⟨p, 0, none⟩ (.int .i64 ((t : Int) + s)) := by
  have hbx' : (W.setCell ⟨p, 0, none⟩ (.int .i64 ((t : Int) + s))).cell? ⟨q, 0, none⟩ = some (.slice (some ⟨b, off, none⟩) n cap) := (World.cell?_setCell_other _ _ _ _ (by simp)).trans hbx
  have hat' : (W.setCell ⟨p, 0, none⟩ (.int .i64 ((t : Int) + s))).cell? ⟨p, 0, none⟩ = some (.int .i64 ((t : Int) + s)) := World.cell?_setCell_same _ _ _ hat
  have hle : (t : Int) + s ≤ cap := by omega
  have hne : ¬ cap = t := by omega
  have hs' : (s : Int) ≤ 6 := by omega
  have ht' : (t : Int) ≤ 140737488355328 := by have := h.room; omega
  have H : Hid (BS (W.setCell ⟨p, 0, none⟩ (.int .i64 ((t : Int) + s))) (some ⟨b, off + t, none⟩) s ((zs.drop t).take s)) := by
    have h1 := (h.drop (by omega) t (by omega)).take s (by omega)
    refine ⟨h1.len, h1.fits, h1.room, ?_⟩
    rcases h1.cells with h0 | ⟨b', off', e, hc⟩
    · exact .inl h0
    · cases e
      exact .inr ⟨_, _, rfl, fun i hi => (World.cell?_setCell_other _ _ _ _ (by simp)).trans (hc i hi)⟩
  clear h
  go_enter Try.func26, Try.ntmps26
  go_wp2_with fail
  refine (number_any _ H.out hs6).mono ?_
  rintro e w1 ⟨rfl, rfl⟩
  go_wp2
  go_ret
  exact ⟨rfl, rfl⟩


set_option maxHeartbeats 1000000 in
theorem take_arp (w : World) (r hh : Array Value) (b off n cap : Nat) (zs : List Int) (h : BS w (some ⟨b, off, none⟩) n zs) (hcap : n ≤ cap) (hm : cap ≤ 9223372036854775807) (t s : Int) (ht : 0 ≤ t) (hs0 : 0 < s) (hs6 : s ≤ 6) (hts : t + s ≤ n) :
    Calls Try.prog 26 #[.int .i64 s, .pointer (some ⟨w.heap.size + 1 + 1 + 1, 0, none⟩), .pointer (some ⟨w.heap.size, 0, none⟩)]
      ((((w.alloc (.cells #[.slice (some ⟨b, off, none⟩) n cap] 22)).alloc (.cells r 36)).alloc (.cells hh 36)).alloc (.cells #[.int .i64 t] 3))
      fun e w' => e = .returned (.int .u64 (num ((zs.drop t.toNat).take s.toNat))) ∧ w' = ((((w.alloc (.cells #[.slice (some ⟨b, off, none⟩) n cap] 22)).alloc (.cells r 36)).alloc (.cells hh 36)).alloc (.cells #[.int .i64 (t + s)] 3)) := by
  obtain ⟨t, rfl⟩ := Int.eq_ofNat_of_zero_le ht
  obtain ⟨s, rfl⟩ := Int.eq_ofNat_of_zero_le (show 0 ≤ s by omega)
  have hbl : b < w.heap.size := by
    rcases h.cells with h0 | ⟨b', off', e, hc⟩
    · omega
    · cases e
      exact cell_lt (hc 0 (by have := h.len; omega))
  have hB : Below w.heap.size w ((((w.alloc (.cells #[.slice (some ⟨b, off, none⟩) n cap] 22)).alloc (.cells r 36)).alloc (.cells hh 36)).alloc (.cells #[.int .i64 t] 3)) := ((((Below.refl _ _).alloc (Nat.le_refl _) _).alloc (by simp) _).alloc (by simp; omega) _).alloc (by simp; omega) _
  refine (takeA_any _ (w.heap.size + 1 + 1 + 1) w.heap.size b off n cap t s zs ?_ ?_ ?_ (by omega) (by omega) (h.below hB) (by omega) (by omega) (by omega) hcap hm).mono ?_
  · simp [go_sem]
  · simp [go_sem]
  · simp [go_sem]
  · rintro e w' ⟨rfl, rfl⟩
    refine ⟨rfl, ?_⟩
    rw [World.setCell_alloc_at _ _ _ _ _ (by simp)]
    rfl



def arpV (op sha spa tha tpa e : Int) : Value := .tuple #[.agg #[.int .i64 op, .int .u64 sha, .int .u32 spa, .int .u64 tha, .int .u32 tpa], .int .i64 e]

/-- The bytes that an ARP packet begins with. -/
theorem form_iff (ys : List Int) (h : ∀ i, 0 ≤ ys.getD i 0 ∧ ys.getD i 0 ≤ 255) (hl : ys.length = 6) : num ys = 4429186564 ↔ ys = [0, 1, 8, 0, 6, 4] := by
  constructor
  · intro e
    have := be_num_k ys h 6 hl
    rw [e] at this
    rw [← this]; decide
  · rintro rfl; decide

theorem byte_inj {x y : Int} (hx : 0 ≤ x ∧ x ≤ 255) (hy : 0 ≤ y ∧ y ≤ 255) (h : UInt8.ofNat x.toNat = UInt8.ofNat y.toNat) : x = y := by
  have := congrArg UInt8.toNat h
  simp only [UInt8.toNat_ofNat'] at this
  omega
theorem bytes_inj {xs : List Int} : ∀ {ys : List Int}, (∀ i, 0 ≤ xs.getD i 0 ∧ xs.getD i 0 ≤ 255) → (∀ i, 0 ≤ ys.getD i 0 ∧ ys.getD i 0 ≤ 255) → (xs.map fun n => UInt8.ofNat n.toNat) = (ys.map fun n => UInt8.ofNat n.toNat) → xs = ys := by
  induction xs with
  | nil => intro ys _ _ h; cases ys with
    | nil => rfl
    | cons y ys => simp at h
  | cons x xs ih =>
    intro ys hx hy h
    cases ys with
    | nil => simp at h
    | cons y ys =>
      simp only [List.map_cons, List.cons.injEq] at h
      rw [show x = y from byte_inj (by simpa using hx 0) (by simpa using hy 0) h.1, ih (fun i => by simpa using hx (i + 1)) (fun i => by simpa using hy (i + 1)) h.2]
theorem str_inj {xs ys : List Int} (hx : ∀ i, 0 ≤ xs.getD i 0 ∧ xs.getD i 0 ≤ 255) (hy : ∀ i, 0 ≤ ys.getD i 0 ∧ ys.getD i 0 ≤ 255) (h : strOfNums xs = strOfNums ys) : xs = ys := by
  apply bytes_inj hx hy
  rw [← strOfNums_data, ← strOfNums_data, h]

theorem form_b (ys : List Int) (h : ∀ i, 0 ≤ ys.getD i 0 ∧ ys.getD i 0 ≤ 255) (hl : ys.length = 6) : ((strOfNums ys).toList == [0, 1, 8, 0, 6, 4]) = decide (num ys = 4429186564) := by
  rw [ByteArray.toList_eq, strOfNums_data, show ([0, 1, 8, 0, 6, 4] : List UInt8) = ([0, 1, 8, 0, 6, 4] : List Int).map (fun n => UInt8.ofNat n.toNat) from by decide]
  by_cases e : ys = [0, 1, 8, 0, 6, 4]
  · subst e; decide
  · have h1 : ¬ num ys = 4429186564 := fun e2 => e ((form_iff ys h hl).1 e2)
    rw [decide_eq_false h1, beq_eq_false_iff_ne]
    intro e3
    refine e (bytes_inj h (fun i => ?_) e3)
    match i with
    | 0 | 1 | 2 | 3 | 4 | 5 => simp
    | i + 6 => simp

theorem num_bd4 {ys : List Int} (h : ∀ i, 0 ≤ ys.getD i 0 ∧ ys.getD i 0 ≤ 255) (hl : ys.length = 4) : 0 ≤ num ys ∧ num ys ≤ 4294967295 := by
  have := num_lt ys h
  rw [hl, show (256 : Int) ^ 4 = 4294967296 from by decide] at this
  omega

set_option maxHeartbeats 1000000 in
theorem arp_short (w : World) (a : Option Addr) (n cap : Nat) (h9 : n < 28) :
    Calls Try.prog 13 #[.slice a n cap] w fun e w' => e = .returned (arpV 0 0 0 0 0 20) ∧ Below w.heap.size w w' := by
  have h2 : (n : Int) < 28 := by omega
  go_enter Try.func13, Try.ntmps13
  go_wp2_with fail
  refine scope_from ?_
  go_wp2
  go_step3
  show FromLabel _ _ _ _ _ _
  refine from_label rfl ?_
  go_wp2
  simp only [Exit.jumpTo]
  refine bodyPost_ret (v := arpV 0 0 0 0 0 20) ?_ rfl ⟨rfl, (below4 w _ _ _ _)⟩
  simp [results, Try.results13, go_sem, arpV]

set_option maxHeartbeats 1000000 in
theorem arp_form (w : World) (b off n cap : Nat) (zs : List Int) (h : BS w (some ⟨b, off, none⟩) n zs) (hcap : n ≤ cap) (hm : cap ≤ 9223372036854775807) (h28 : 28 ≤ n) (hF : num (zs.take 6) ≠ 4429186564) :
    Calls Try.prog 13 #[.slice (some ⟨b, off, none⟩) n cap] w fun e w' => e = .returned (arpV 0 0 0 0 0 21) ∧ Below w.heap.size w w' := by
  have h2 : ¬ (n : Int) < 28 := by omega
  have h6 : (6 : Int) ≤ cap := by omega
  have hcv : ∀ o1 o2 o3 o4, (convert 22 9 (.slice (some ⟨b, off, none⟩) 6 cap)).run Try.prog ((((w.alloc o1).alloc o2).alloc o3).alloc o4) = .ok (.string (strOfNums (zs.take 6))) ((((w.alloc o1).alloc o2).alloc o3).alloc o4) := fun o1 o2 o3 o4 =>
    run_conv_bs _ ((h.take 6 (by omega)).below (below4 w o1 o2 o3 o4)) 22 9 5 Try.underlying22 Try.underlying5 Try.underlying9
  have hfm := form_b (zs.take 6) (h.take 6 (by omega)).fits (h.take 6 (by omega)).len
  rw [decide_eq_false hF] at hfm
  go_enter Try.func13, Try.ntmps13
  go_wp2_with fail
  refine scope_from ?_
  go_wp2
  go_step3
  show FromLabel _ _ _ _ _ _
  refine from_label rfl ?_
  go_wp2
  simp only [Exit.jumpTo]
  refine bodyPost_ret (v := arpV 0 0 0 0 0 21) ?_ rfl ⟨rfl, (below4 w _ _ _ _)⟩
  simp [results, Try.results13, go_sem, arpV]

set_option maxHeartbeats 2000000 in
theorem arp_ok (w : World) (b off n cap : Nat) (zs : List Int) (h : BS w (some ⟨b, off, none⟩) n zs) (hcap : n ≤ cap) (hm : cap ≤ 9223372036854775807) (h28 : 28 ≤ n) (hF : num (zs.take 6) = 4429186564) :
    Calls Try.prog 13 #[.slice (some ⟨b, off, none⟩) n cap] w fun e w' => e = .returned (arpV (num ((zs.drop 6).take 2)) (num ((zs.drop 8).take 6)) (num ((zs.drop 14).take 4)) (num ((zs.drop 18).take 6)) (num ((zs.drop 24).take 4)) 0) ∧ Below w.heap.size w w' := by
  have h2 : ¬ (n : Int) < 28 := by omega
  have h6 : (6 : Int) ≤ cap := by omega
  have hcv : ∀ o1 o2 o3 o4, (convert 22 9 (.slice (some ⟨b, off, none⟩) 6 cap)).run Try.prog ((((w.alloc o1).alloc o2).alloc o3).alloc o4) = .ok (.string (strOfNums (zs.take 6))) ((((w.alloc o1).alloc o2).alloc o3).alloc o4) := fun o1 o2 o3 o4 =>
    run_conv_bs _ ((h.take 6 (by omega)).below (below4 w o1 o2 o3 o4)) 22 9 5 Try.underlying22 Try.underlying5 Try.underlying9
  have hfm := form_b (zs.take 6) (h.take 6 (by omega)).fits (h.take 6 (by omega)).len
  rw [decide_eq_true hF] at hfm
  have b2 := num_bd2 ((h.drop (by omega) 6 (by omega)).take 2 (by omega))
  have b4 := num_bd4 ((h.drop (by omega) 14 (by omega)).take 4 (by omega)).fits (by simp; have := h.len; omega)
  have b5 := num_bd4 ((h.drop (by omega) 24 (by omega)).take 4 (by omega)).fits (by simp; have := h.len; omega)
  have H : Hid _ := h
  clear h hF
  go_enter Try.func13, Try.ntmps13
  go_wp2_with fail
  refine scope_from ?_
  go_wp2_with (go_at_call 26; refine (take_arp w _ _ b off n cap zs H.out hcap hm _ _ (by omega) (by omega) (by omega) (by omega)).mono ?_; rintro e w1 ⟨rfl, rfl⟩)
  simp only [Exit.jumpTo]
  refine bodyPost_ret (v := arpV (num ((zs.drop 6).take 2)) (num ((zs.drop 8).take 6)) (num ((zs.drop 14).take 4)) (num ((zs.drop 18).take 6)) (num ((zs.drop 24).take 4)) 0) ?_ rfl ⟨rfl, (below4 w _ _ _ _)⟩
  simp [results, Try.results13, go_sem, arpV]

attribute [local go_sem ↓] Go.wp_at_zero Go.wp_at_succ
theorem rarp_short (w : World) (a : Option Addr) (n cap : Nat) (h9 : n < 28) :
    Calls Try.prog 14 #[.slice a n cap] w fun e w' => e = .returned (arpV 0 0 0 0 0 20) ∧ Below w.heap.size w w' := by
  have h2 : (n : Int) < 28 := by omega
  go_enter Try.func14, Try.ntmps14
  go_wp2
  refine bodyPost_ret (v := arpV 0 0 0 0 0 20) ?_ rfl ⟨rfl, (below1 w _)⟩
  simp [results, Try.results14, go_sem, arpV]

set_option maxHeartbeats 1000000 in
theorem rarp_form (w : World) (b off n cap : Nat) (zs : List Int) (h : BS w (some ⟨b, off, none⟩) n zs) (hcap : n ≤ cap) (h28 : 28 ≤ n) (hF : num (zs.take 6) ≠ 4429186564) :
    Calls Try.prog 14 #[.slice (some ⟨b, off, none⟩) n cap] w fun e w' => e = .returned (arpV 0 0 0 0 0 21) ∧ Below w.heap.size w w' := by
  have h2 : ¬ (n : Int) < 28 := by omega
  have h6 : (6 : Int) ≤ cap := by omega
  have hF' : (num (zs.take 6) != 4429186564) = true := by simp [hF]
  go_enter Try.func14, Try.ntmps14
  go_wp2_with (go_at_call 19; refine (rnum_at0 h ?_ _ _ (by omega) (by omega)).mono ?_; exact below1 w _; rintro e w1 ⟨rfl, rfl⟩)
  refine bodyPost_ret (v := arpV 0 0 0 0 0 21) ?_ rfl ⟨rfl, (below1 w _)⟩
  simp [results, Try.results14, go_sem, arpV]

set_option maxHeartbeats 4000000 in
theorem rarp_ok (w : World) (b off n cap : Nat) (zs : List Int) (h : BS w (some ⟨b, off, none⟩) n zs) (hcap : n ≤ cap) (h28 : 28 ≤ n) (hF : num (zs.take 6) = 4429186564) :
    Calls Try.prog 14 #[.slice (some ⟨b, off, none⟩) n cap] w fun e w' => e = .returned (arpV (num ((zs.drop 6).take 2)) (num ((zs.drop 8).take 6)) (num ((zs.drop 14).take 4)) (num ((zs.drop 18).take 6)) (num ((zs.drop 24).take 4)) 0) ∧ Below w.heap.size w w' := by
  have h2 : ¬ (n : Int) < 28 := by omega
  have h6 : (6 : Int) ≤ cap := by omega
  have h8 : (8 : Int) ≤ cap := by omega
  have h14 : (14 : Int) ≤ cap := by omega
  have h18 : (18 : Int) ≤ cap := by omega
  have h24 : (24 : Int) ≤ cap := by omega
  have h28' : (28 : Int) ≤ cap := by omega
  have c6 : ¬ cap = 6 := by omega
  have c8 : ¬ cap = 8 := by omega
  have c14 : ¬ cap = 14 := by omega
  have c18 : ¬ cap = 18 := by omega
  have c24 : ¬ cap = 24 := by omega
  have hF' : (num (zs.take 6) != 4429186564) = false := by simp [hF]
  have b2 := num_bd2 ((h.drop (by omega) 6 (by omega)).take 2 (by omega))
  have b4 := num_bd4 ((h.drop (by omega) 14 (by omega)).take 4 (by omega)).fits (by simp; have := h.len; omega)
  have b5 := num_bd4 ((h.drop (by omega) 24 (by omega)).take 4 (by omega)).fits (by simp; have := h.len; omega)
  have w0 : IntKind.i64.wrap (num ((zs.drop 6).take 2)) = num ((zs.drop 6).take 2) := by rw [IntKind.wrap_i64]; omega
  have w1 : IntKind.u32.wrap (num ((zs.drop 14).take 4)) = num ((zs.drop 14).take 4) := by rw [IntKind.wrap_u32']; omega
  have w2 : IntKind.u32.wrap (num ((zs.drop 24).take 4)) = num ((zs.drop 24).take 4) := by rw [IntKind.wrap_u32']; omega
  have H : Hid _ := h
  clear h hF
  have hS := below1 w (.cells #[.int .i64 0, .int .u64 0, .int .u32 0, .int .u64 0, .int .u32 0] 36)
  go_enter Try.func14, Try.ntmps14
  go_wp2_with (go_at_call 19; refine (rnum_at0 H.out ?_ _ _ (by omega) (by omega)).mono ?_; exact below1 w _; rintro e w1 ⟨rfl, rfl⟩)
  go_region_held3 (fun W => Below w.heap.size w W) (first | assumption | exact (below1 w _).drew | exact (below1 w _))
    (first
      | (go_at_call 19; refine (rnum_at H.out ?_ _ _ _ (by omega) (by omega) (by omega)).mono ?_; assumption; rintro e w1 ⟨rfl, rfl⟩)
      | fail)
  all_goals
    go_wp2
    refine bodyPost_ret (v := arpV (num ((zs.drop 6).take 2)) (num ((zs.drop 8).take 6)) (num ((zs.drop 14).take 4)) (num ((zs.drop 18).take 6)) (num ((zs.drop 24).take 4)) 0) ?_ rfl ⟨rfl, (below1 w _).drew⟩
    simp [results, Try.results14, go_sem, arpV]

/-- What an ARP packet is. -/
def arpOf (zs : List Int) : Value :=
  if zs.length < 28 then arpV 0 0 0 0 0 20
  else if num (zs.take 6) ≠ 4429186564 then arpV 0 0 0 0 0 21
  else arpV (num ((zs.drop 6).take 2)) (num ((zs.drop 8).take 6)) (num ((zs.drop 14).take 4)) (num ((zs.drop 18).take 6)) (num ((zs.drop 24).take 4)) 0

theorem arp_any {w : World} {a : Option Addr} {n : Nat} (cap : Nat) {zs : List Int} (h : BS w a n zs) (hcap : n ≤ cap) (hm : cap ≤ 9223372036854775807) :
    Calls Try.prog 13 #[.slice a n cap] w fun e w' => e = .returned (arpOf zs) ∧ Below w.heap.size w w' := by
  have hl := h.len
  unfold arpOf
  rw [hl]
  by_cases h2 : n < 28
  · rw [if_pos h2]; exact arp_short w a n cap h2
  rw [if_neg h2]
  obtain ⟨b, off, rfl, _⟩ := h.cells.resolve_left (by omega)
  by_cases h3 : num (zs.take 6) ≠ 4429186564
  · rw [if_pos h3]; exact arp_form w b off n cap zs h hcap hm (by omega) h3
  · rw [if_neg h3]; exact arp_ok w b off n cap zs h hcap hm (by omega) (Classical.not_not.1 h3)

theorem rarp_any {w : World} {a : Option Addr} {n : Nat} (cap : Nat) {zs : List Int} (h : BS w a n zs) (hcap : n ≤ cap) :
    Calls Try.prog 14 #[.slice a n cap] w fun e w' => e = .returned (arpOf zs) ∧ Below w.heap.size w w' := by
  have hl := h.len
  unfold arpOf
  rw [hl]
  by_cases h2 : n < 28
  · rw [if_pos h2]; exact rarp_short w a n cap h2
  rw [if_neg h2]
  obtain ⟨b, off, rfl, _⟩ := h.cells.resolve_left (by omega)
  by_cases h3 : num (zs.take 6) ≠ 4429186564
  · rw [if_pos h3]; exact rarp_form w b off n cap zs h hcap (by omega) h3
  · rw [if_neg h3]; exact rarp_ok w b off n cap zs h hcap (by omega) (Classical.not_not.1 h3)

end Go.Proofs.Ytfjhahofmmbleaa
