/- Parts of the proof, in one text. -/
import Derived.Test.YtpiokeidcnbmbaaKit
import Derived.Test.YtpiokeidcnbmbaaXH
import Derived.Deep.RegionHeld3
import Derived.Deep.RegionWith
import Derived.Deep.DrawnRows
import Derived.OneCell
namespace Go.Proofs.Ytpiokeidcnbmbaa.Eth
open Go.RowKit
theorem p256 (k : Nat) : (2 : Int) ^ (8 * k) = 256 ^ k := by rw [Int.pow_mul]; rfl
theorem p256_pos (k : Nat) : (0 : Int) < 256 ^ k := Int.pow_pos (by omega)

theorem num_fold (ys : List Int) : ∀ a : Int, ys.foldl (fun x z => x * 256 + z) a = a * 256 ^ ys.length + num ys := by
  unfold num
  induction ys with
  | nil => intro a; simp
  | cons y ys ih =>
    intro a
    simp only [List.foldl_cons, List.length_cons, Int.pow_succ]
    rw [ih (a * 256 + y), ih (0 * 256 + y)]
    generalize (256 : Int) ^ ys.length = P
    rw [Int.add_mul, Int.add_mul, Int.zero_mul, Int.zero_mul, Int.mul_assoc, Int.mul_comm 256 P]
    omega
theorem num_cons (y : Int) (ys : List Int) : num (y :: ys) = y * 256 ^ ys.length + num ys := by
  have := num_fold ys y
  rw [← this]; simp [num]
theorem num_lt (ys : List Int) (h : ∀ i, 0 ≤ ys.getD i 0 ∧ ys.getD i 0 ≤ 255) : 0 ≤ num ys ∧ num ys < 256 ^ ys.length := by
  have := num_bd ys h ys.length
  rwa [List.take_length] at this

theorem be_mod (k : Nat) : ∀ (a v : Int), be (a * 256 ^ k + v) k = be v k := by
  induction k with
  | zero => intro a v; rfl
  | succ k ih =>
    intro a v
    have e : a * 256 ^ (k + 1) + v = (a * 256) * 256 ^ k + v := by rw [Int.pow_succ, Int.mul_assoc, Int.mul_comm 256]
    simp only [be]
    rw [p256, e, ih (a * 256) v]
    congr 1
    rw [Int.add_comm, Int.add_mul_ediv_right _ _ (Int.ne_of_gt (p256_pos k))]
    omega

theorem be_num (ys : List Int) (h : ∀ i, 0 ≤ ys.getD i 0 ∧ ys.getD i 0 ≤ 255) : be (num ys) ys.length = ys := by
  induction ys with
  | nil => rfl
  | cons y ys ih =>
    have h' : ∀ i, 0 ≤ ys.getD i 0 ∧ ys.getD i 0 ≤ 255 := fun i => by simpa using h (i + 1)
    have hy : 0 ≤ y ∧ y ≤ 255 := by simpa using h 0
    have hb := num_lt ys h'
    rw [num_cons]
    simp only [List.length_cons, be]
    rw [p256, be_mod, ih h']
    congr 1
    rw [Int.add_comm, Int.add_mul_ediv_right _ _ (Int.ne_of_gt (p256_pos _)), Int.ediv_eq_zero_of_lt hb.1 hb.2]
    omega

theorem num_be (k : Nat) : ∀ (v : Int), 0 ≤ v → v < 256 ^ k → num (be v k) = v := by
  induction k with
  | zero => intro v h0 h1; simp [be, num]; simp at h1; omega
  | succ k ih =>
    intro v h0 h1
    simp only [be]
    rw [num_cons, be_len, p256]
    have hp := p256_pos k
    have hv : v = (v / 256 ^ k) * 256 ^ k + v % 256 ^ k := by rw [Int.mul_comm]; exact (Int.mul_ediv_add_emod v _).symm
    have hq : v / 256 ^ k < 256 := by
      apply Int.ediv_lt_of_lt_mul hp
      rw [Int.pow_succ, Int.mul_comm] at h1; exact h1
    have hq0 : 0 ≤ v / 256 ^ k := Int.ediv_nonneg h0 (Int.le_of_lt hp)
    have e : be v k = be (v % 256 ^ k) k := by
      conv => lhs; rw [hv]
      exact be_mod k _ _
    rw [e, ih _ (Int.emod_nonneg _ (Int.ne_of_gt hp)) (Int.emod_lt_of_pos _ hp), Int.emod_eq_of_lt hq0 hq]
    exact hv.symm

theorem num_be6 (v : Int) (h0 : 0 ≤ v) (h1 : v ≤ 281474976710655) : num (be v 6) = v := num_be 6 v h0 (by rw [show (256 : Int) ^ 6 = 281474976710656 from by decide]; omega)
theorem num_be4 (v : Int) (h0 : 0 ≤ v) (h1 : v ≤ 4294967295) : num (be v 4) = v := num_be 4 v h0 (by rw [show (256 : Int) ^ 4 = 4294967296 from by decide]; omega)
theorem num_be2 (v : Int) (h0 : 0 ≤ v) (h1 : v ≤ 65535) : num (be v 2) = v := num_be 2 v h0 (by rw [show (256 : Int) ^ 2 = 65536 from by decide]; omega)
theorem be_num_k (ys : List Int) (h : ∀ i, 0 ≤ ys.getD i 0 ∧ ys.getD i 0 ≤ 255) (k : Nat) (hk : ys.length = k) : be (num ys) k = ys := by subst hk; exact be_num ys h

theorem fits_take {xs : List Int} (h : ∀ i, 0 ≤ xs.getD i 0 ∧ xs.getD i 0 ≤ 255) (k : Nat) : ∀ i, 0 ≤ (xs.take k).getD i 0 ∧ (xs.take k).getD i 0 ≤ 255 := by
  intro i
  have := h i
  simp only [List.getD_eq_getElem?_getD, List.getElem?_take] at *
  split <;> simp_all
theorem fits_drop {xs : List Int} (h : ∀ i, 0 ≤ xs.getD i 0 ∧ xs.getD i 0 ≤ 255) (k : Nat) : ∀ i, 0 ≤ (xs.drop k).getD i 0 ∧ (xs.drop k).getD i 0 ≤ 255 := by
  intro i
  have := h (k + i)
  simpa [List.getD_eq_getElem?_getD, List.getElem?_drop] using this
end Go.Proofs.Ytpiokeidcnbmbaa.Eth

namespace Go.Proofs.Ytpiokeidcnbmbaa.Eth
open Go.RowKit

set_option maxHeartbeats 1000000 in
theorem takeA_any (W : World) (p q b off n cap t s : Nat) (zs : List Int) (hat : W.cell? ⟨p, 0, none⟩ = some (.int .i64 t)) (hfr : W.frozen? ⟨p, 0, none⟩ = false) (hbx : W.cell? ⟨q, 0, none⟩ = some (.slice (some ⟨b, off, none⟩) n cap)) (_hpq : p ≠ q) (_hpb : p ≠ b)
    (h : BS W (some ⟨b, off, none⟩) n zs) (hs0 : 0 < s) (hs6 : s ≤ 6) (hts : t + s ≤ n) (hcap : n ≤ cap) (hm : cap ≤ 9223372036854775807) :
    Calls Try.prog 45 #[.int .i64 s, .pointer (some ⟨p, 0, none⟩), .pointer (some ⟨q, 0, none⟩)] W fun e w' => e = .returned (.int .u64 (num ((zs.drop t).take s))) ∧ w' = W.setCell ⟨p, 0, none⟩ (.int .i64 ((t : Int) + s)) := by
  have hbx' : (W.setCell ⟨p, 0, none⟩ (.int .i64 ((t : Int) + s))).cell? ⟨q, 0, none⟩ = some (.slice (some ⟨b, off, none⟩) n cap) := (World.cell?_setCell_other _ _ _ _ (by simp)).trans hbx
  have hat' : (W.setCell ⟨p, 0, none⟩ (.int .i64 ((t : Int) + s))).cell? ⟨p, 0, none⟩ = some (.int .i64 ((t : Int) + s)) := World.cell?_setCell_same _ _ _ hat
  have hle : (t : Int) + s ≤ cap := by omega
  have hne : ¬ cap = t := by omega
  have hs' : (s : Int) ≤ 6 := by omega
  have ht' : (t : Int) ≤ 140737488355328 := by have := h.room; omega
  have H : Hid (BS (W.setCell ⟨p, 0, none⟩ (.int .i64 ((t : Int) + s))) (some ⟨b, off + t, none⟩) s ((zs.drop t).take s)) := by
    have h1 := (h.drop (by omega) t (by omega)).take s (by omega)
    refine ⟨h1.len, h1.fits, h1.room, ?_⟩
    rcases h1.cells with h0 | ⟨b', off', e, hc⟩
    · exact .inl h0
    · cases e
      exact .inr ⟨_, _, rfl, fun i hi => (World.cell?_setCell_other _ _ _ _ (by simp)).trans (hc i hi)⟩
  clear h
  go_enter Try.func45, Try.ntmps45
  go_wp2_with fail
  refine (number_any _ H.out hs6).mono ?_
  rintro e w1 ⟨rfl, rfl⟩
  go_wp2
  go_ret
  exact ⟨rfl, rfl⟩


set_option maxHeartbeats 1000000 in
theorem take_arp (w : World) (r hh : Array Value) (b off n cap : Nat) (zs : List Int) (h : BS w (some ⟨b, off, none⟩) n zs) (hcap : n ≤ cap) (hm : cap ≤ 9223372036854775807) (t s : Int) (ht : 0 ≤ t) (hs0 : 0 < s) (hs6 : s ≤ 6) (hts : t + s ≤ n) :
    Calls Try.prog 45 #[.int .i64 s, .pointer (some ⟨w.heap.size + 1 + 1 + 1, 0, none⟩), .pointer (some ⟨w.heap.size, 0, none⟩)]
      ((((w.alloc (.cells #[.slice (some ⟨b, off, none⟩) n cap] 22)).alloc (.cells r 28)).alloc (.cells hh 28)).alloc (.cells #[.int .i64 t] 3))
      fun e w' => e = .returned (.int .u64 (num ((zs.drop t.toNat).take s.toNat))) ∧ w' = ((((w.alloc (.cells #[.slice (some ⟨b, off, none⟩) n cap] 22)).alloc (.cells r 28)).alloc (.cells hh 28)).alloc (.cells #[.int .i64 (t + s)] 3)) := by
  obtain ⟨t, rfl⟩ := Int.eq_ofNat_of_zero_le ht
  obtain ⟨s, rfl⟩ := Int.eq_ofNat_of_zero_le (show 0 ≤ s by omega)
  have hbl : b < w.heap.size := by
    rcases h.cells with h0 | ⟨b', off', e, hc⟩
    · omega
    · cases e
      exact cell_lt (hc 0 (by have := h.len; omega))
  have hB : Below w.heap.size w ((((w.alloc (.cells #[.slice (some ⟨b, off, none⟩) n cap] 22)).alloc (.cells r 28)).alloc (.cells hh 28)).alloc (.cells #[.int .i64 t] 3)) := ((((Below.refl _ _).alloc (Nat.le_refl _) _).alloc (by simp) _).alloc (by simp; omega) _).alloc (by simp; omega) _
  refine (takeA_any _ (w.heap.size + 1 + 1 + 1) w.heap.size b off n cap t s zs ?_ ?_ ?_ (by omega) (by omega) (h.below hB) (by omega) (by omega) (by omega) hcap hm).mono ?_
  · simp [go_sem]
  · simp [go_sem]
  · simp [go_sem]
  · rintro e w' ⟨rfl, rfl⟩
    refine ⟨rfl, ?_⟩
    rw [World.setCell_alloc_at _ _ _ _ _ (by simp)]
    rfl



def arpV (op sha spa tha tpa e : Int) : Value := .tuple #[.agg #[.int .i64 op, .int .u64 sha, .int .u32 spa, .int .u64 tha, .int .u32 tpa], .int .i64 e]

/-- The bytes that an ARP packet begins with. -/
theorem form_iff (ys : List Int) (h : ∀ i, 0 ≤ ys.getD i 0 ∧ ys.getD i 0 ≤ 255) (hl : ys.length = 6) : num ys = 4429186564 ↔ ys = [0, 1, 8, 0, 6, 4] := by
  constructor
  · intro e
    have := be_num_k ys h 6 hl
    rw [e] at this
    rw [← this]; decide
  · rintro rfl; decide

theorem byte_inj {x y : Int} (hx : 0 ≤ x ∧ x ≤ 255) (hy : 0 ≤ y ∧ y ≤ 255) (h : UInt8.ofNat x.toNat = UInt8.ofNat y.toNat) : x = y := by
  have := congrArg UInt8.toNat h
  simp only [UInt8.toNat_ofNat'] at this
  omega
theorem bytes_inj {xs : List Int} : ∀ {ys : List Int}, (∀ i, 0 ≤ xs.getD i 0 ∧ xs.getD i 0 ≤ 255) → (∀ i, 0 ≤ ys.getD i 0 ∧ ys.getD i 0 ≤ 255) → (xs.map fun n => UInt8.ofNat n.toNat) = (ys.map fun n => UInt8.ofNat n.toNat) → xs = ys := by
  induction xs with
  | nil => intro ys _ _ h; cases ys with
    | nil => rfl
    | cons y ys => simp at h
  | cons x xs ih =>
    intro ys hx hy h
    cases ys with
    | nil => simp at h
    | cons y ys =>
      simp only [List.map_cons, List.cons.injEq] at h
      rw [show x = y from byte_inj (by simpa using hx 0) (by simpa using hy 0) h.1, ih (fun i => by simpa using hx (i + 1)) (fun i => by simpa using hy (i + 1)) h.2]
theorem str_inj {xs ys : List Int} (hx : ∀ i, 0 ≤ xs.getD i 0 ∧ xs.getD i 0 ≤ 255) (hy : ∀ i, 0 ≤ ys.getD i 0 ∧ ys.getD i 0 ≤ 255) (h : strOfNums xs = strOfNums ys) : xs = ys := by
  apply bytes_inj hx hy
  rw [← strOfNums_data, ← strOfNums_data, h]

theorem form_b (ys : List Int) (h : ∀ i, 0 ≤ ys.getD i 0 ∧ ys.getD i 0 ≤ 255) (hl : ys.length = 6) : ((strOfNums ys).toList == [0, 1, 8, 0, 6, 4]) = decide (num ys = 4429186564) := by
  rw [ByteArray.toList_eq, strOfNums_data, show ([0, 1, 8, 0, 6, 4] : List UInt8) = ([0, 1, 8, 0, 6, 4] : List Int).map (fun n => UInt8.ofNat n.toNat) from by decide]
  by_cases e : ys = [0, 1, 8, 0, 6, 4]
  · subst e; decide
  · have h1 : ¬ num ys = 4429186564 := fun e2 => e ((form_iff ys h hl).1 e2)
    rw [decide_eq_false h1, beq_eq_false_iff_ne]
    intro e3
    refine e (bytes_inj h (fun i => ?_) e3)
    match i with
    | 0 | 1 | 2 | 3 | 4 | 5 => simp
    | i + 6 => simp

theorem num_bd4 {ys : List Int} (h : ∀ i, 0 ≤ ys.getD i 0 ∧ ys.getD i 0 ≤ 255) (hl : ys.length = 4) : 0 ≤ num ys ∧ num ys ≤ 4294967295 := by
  have := num_lt ys h
  rw [hl, show (256 : Int) ^ 4 = 4294967296 from by decide] at this
  omega

set_option maxHeartbeats 1000000 in
theorem arp_short (w : World) (a : Option Addr) (n cap : Nat) (h9 : n < 28) :
    Calls Try.prog 19 #[.slice a n cap] w fun e w' => e = .returned (arpV 0 0 0 0 0 20) ∧ Below w.heap.size w w' := by
  have h2 : (n : Int) < 28 := by omega
  go_enter Try.func19, Try.ntmps19
  go_wp2_with fail
  refine scope_from ?_
  go_wp2
  go_step3
  show FromLabel _ _ _ _ _ _
  refine from_label rfl ?_
  go_wp2
  simp only [Exit.jumpTo]
  refine bodyPost_ret (v := arpV 0 0 0 0 0 20) ?_ rfl ⟨rfl, (below4 w _ _ _ _)⟩
  simp [results, Try.results19, go_sem, arpV]

set_option maxHeartbeats 1000000 in
theorem arp_form (w : World) (b off n cap : Nat) (zs : List Int) (h : BS w (some ⟨b, off, none⟩) n zs) (hcap : n ≤ cap) (hm : cap ≤ 9223372036854775807) (h28 : 28 ≤ n) (hF : num (zs.take 6) ≠ 4429186564) :
    Calls Try.prog 19 #[.slice (some ⟨b, off, none⟩) n cap] w fun e w' => e = .returned (arpV 0 0 0 0 0 21) ∧ Below w.heap.size w w' := by
  have h2 : ¬ (n : Int) < 28 := by omega
  have h6 : (6 : Int) ≤ cap := by omega
  have hcv : ∀ o1 o2 o3 o4, (convert 22 9 (.slice (some ⟨b, off, none⟩) 6 cap)).run Try.prog ((((w.alloc o1).alloc o2).alloc o3).alloc o4) = .ok (.string (strOfNums (zs.take 6))) ((((w.alloc o1).alloc o2).alloc o3).alloc o4) := fun o1 o2 o3 o4 =>
    run_conv_bs _ ((h.take 6 (by omega)).below (below4 w o1 o2 o3 o4)) 22 9 5 Try.underlying22 Try.underlying5 Try.underlying9
  have hfm := form_b (zs.take 6) (h.take 6 (by omega)).fits (h.take 6 (by omega)).len
  rw [decide_eq_false hF] at hfm
  go_enter Try.func19, Try.ntmps19
  go_wp2_with fail
  refine scope_from ?_
  go_wp2
  go_step3
  show FromLabel _ _ _ _ _ _
  refine from_label rfl ?_
  go_wp2
  simp only [Exit.jumpTo]
  refine bodyPost_ret (v := arpV 0 0 0 0 0 21) ?_ rfl ⟨rfl, (below4 w _ _ _ _)⟩
  simp [results, Try.results19, go_sem, arpV]

set_option maxHeartbeats 2000000 in
theorem arp_ok (w : World) (b off n cap : Nat) (zs : List Int) (h : BS w (some ⟨b, off, none⟩) n zs) (hcap : n ≤ cap) (hm : cap ≤ 9223372036854775807) (h28 : 28 ≤ n) (hF : num (zs.take 6) = 4429186564) :
    Calls Try.prog 19 #[.slice (some ⟨b, off, none⟩) n cap] w fun e w' => e = .returned (arpV (num ((zs.drop 6).take 2)) (num ((zs.drop 8).take 6)) (num ((zs.drop 14).take 4)) (num ((zs.drop 18).take 6)) (num ((zs.drop 24).take 4)) 0) ∧ Below w.heap.size w w' := by
  have h2 : ¬ (n : Int) < 28 := by omega
  have h6 : (6 : Int) ≤ cap := by omega
  have hcv : ∀ o1 o2 o3 o4, (convert 22 9 (.slice (some ⟨b, off, none⟩) 6 cap)).run Try.prog ((((w.alloc o1).alloc o2).alloc o3).alloc o4) = .ok (.string (strOfNums (zs.take 6))) ((((w.alloc o1).alloc o2).alloc o3).alloc o4) := fun o1 o2 o3 o4 =>
    run_conv_bs _ ((h.take 6 (by omega)).below (below4 w o1 o2 o3 o4)) 22 9 5 Try.underlying22 Try.underlying5 Try.underlying9
  have hfm := form_b (zs.take 6) (h.take 6 (by omega)).fits (h.take 6 (by omega)).len
  rw [decide_eq_true hF] at hfm
  have b2 := num_bd2 ((h.drop (by omega) 6 (by omega)).take 2 (by omega))
  have b4 := num_bd4 ((h.drop (by omega) 14 (by omega)).take 4 (by omega)).fits (by simp; have := h.len; omega)
  have b5 := num_bd4 ((h.drop (by omega) 24 (by omega)).take 4 (by omega)).fits (by simp; have := h.len; omega)
  have H : Hid _ := h
  clear h hF
  go_enter Try.func19, Try.ntmps19
  go_wp2_with fail
  refine scope_from ?_
  go_wp2_with (go_at_call 45; refine (take_arp w _ _ b off n cap zs H.out hcap hm _ _ (by omega) (by omega) (by omega) (by omega)).mono ?_; rintro e w1 ⟨rfl, rfl⟩)
  simp only [Exit.jumpTo]
  refine bodyPost_ret (v := arpV (num ((zs.drop 6).take 2)) (num ((zs.drop 8).take 6)) (num ((zs.drop 14).take 4)) (num ((zs.drop 18).take 6)) (num ((zs.drop 24).take 4)) 0) ?_ rfl ⟨rfl, (below4 w _ _ _ _)⟩
  simp [results, Try.results19, go_sem, arpV]

attribute [local go_sem ↓] Go.wp_at_zero Go.wp_at_succ
/-- What an ARP packet is. -/
def arpOf (zs : List Int) : Value :=
  if zs.length < 28 then arpV 0 0 0 0 0 20
  else if num (zs.take 6) ≠ 4429186564 then arpV 0 0 0 0 0 21
  else arpV (num ((zs.drop 6).take 2)) (num ((zs.drop 8).take 6)) (num ((zs.drop 14).take 4)) (num ((zs.drop 18).take 6)) (num ((zs.drop 24).take 4)) 0

theorem arp_any {w : World} {a : Option Addr} {n : Nat} (cap : Nat) {zs : List Int} (h : BS w a n zs) (hcap : n ≤ cap) (hm : cap ≤ 9223372036854775807) :
    Calls Try.prog 19 #[.slice a n cap] w fun e w' => e = .returned (arpOf zs) ∧ Below w.heap.size w w' := by
  have hl := h.len
  unfold arpOf
  rw [hl]
  by_cases h2 : n < 28
  · rw [if_pos h2]; exact arp_short w a n cap h2
  rw [if_neg h2]
  obtain ⟨b, off, rfl, _⟩ := h.cells.resolve_left (by omega)
  by_cases h3 : num (zs.take 6) ≠ 4429186564
  · rw [if_pos h3]; exact arp_form w b off n cap zs h hcap hm (by omega) h3
  · rw [if_neg h3]; exact arp_ok w b off n cap zs h hcap hm (by omega) (Classical.not_not.1 h3)

end Go.Proofs.Ytpiokeidcnbmbaa.Eth

namespace Go.Proofs.Ytpiokeidcnbmbaa.Eth
open Go.RowKit

/-- A variable of a call's own in block p that holds a row of bytes of the call's own. -/
structure Enc (w0 W : World) (p : Nat) (xs : List Int) : Prop where
  bel : Below w0.heap.size w0 W
  here : w0.heap.size ≤ p
  row : ∃ a cap, W.heap[p]? = some (.cells #[.slice a xs.length cap] 22 (0, 0)) ∧ W.ownsRow w0.heap.size 5 1 (.slice a xs.length cap) xs.length (xs.map (Value.int .u8))

theorem row_apart {W : World} {base p : Nat} {v u : Value} {n : Nat} {xs : List Value} (h : W.ownsRow base 5 1 v n xs) (hp : W.heap[p]? = some (.cells #[u] 22 (0, 0))) : v.ownBlock ≠ some p := by
  intro e
  rcases h.2 with ⟨rfl, _⟩ | ⟨g, cap, cur, rfl, _, hg, _⟩
  · cases e
  · simp only [Value.ownBlock] at e
    cases e
    rw [hg] at hp
    simp at hp

set_option maxHeartbeats 1000000 in
theorem put_any (f : Nat) (hf : f = 59) (w0 W : World) (p : Nat) (xs : List Int) (h : Enc w0 W p xs) (hn : xs.length ≤ 1000000) (v : Int) (hv : 0 ≤ v ∧ v ≤ 18446744073709551615) (s : Nat) (hs : s ≤ 8) :
    Calls Try.prog f #[.int .u64 v, .int .i64 s, .pointer (some ⟨p, 0, none⟩)] W fun e w' => e = .returned (.tuple #[]) ∧ Enc w0 w' p (xs ++ be v s) := by
  subst hf
  obtain ⟨hb, hp, a, cap, hc, ho⟩ := h
  have hc0 := cell_of_one hc
  have hf0 := free_of_one hc
  have HC : Hid _ := hc
  have HO : Hid _ := ho
  have HB : Hid _ := hb
  clear hc ho hb
  go_enter Try.func59, Try.ntmps59
  go_wp2_with fail
  refine (appendNumber_any w0.heap.size W a xs.length cap xs HO.out HB.out.size hn v hv s hs).mono ?_
  rintro e w1 ⟨a', cap', rfl, hr⟩
  have hap := row_apart HO.out HC.out
  have hc1 : w1.heap[p]? = some (.cells #[.slice a xs.length cap] 22 (0, 0)) := (hr.grown.block p (lt_of_block HC.out) (fun e => hap e.symm)).trans HC.out
  have hc1' := cell_of_one hc1
  have hf1 := free_of_one hc1
  have HC1 : Hid _ := hc1
  have HR : Hid _ := hr
  clear hc1 hr hap hc0 hf0
  go_wp2
  go_end0
  refine ⟨rfl, ?_, hp, a', cap', ?_, ?_⟩
  · exact (HB.out.grown HR.out.grown HB.out.size (fun k hk => (World.ownsRow.lt HO.out k hk).1)).setCell hp _
  · rw [one_setCell HC1.out]; simp [be_len]
  · rw [show (xs ++ be v s).length = xs.length + s from by simp [be_len]]
    exact ownsRow_setCell_other HR.out.own (row_apart HR.out.own HC1.out) _

def wordB (v : Int) : Bool := decide (0 ≤ v ∧ v ≤ 65535)
theorem wordB_yes {v : Int} (h : wordB v = true) : 0 ≤ v ∧ v ≤ 65535 := of_decide_eq_true h

theorem isWord_any (v : Int) (w : World) : Calls Try.prog 77 #[.int .i64 v, .int .u64 16] w fun e w' => e = .returned (.bool (wordB v)) ∧ w' = w := by
  have e : (v / 65536 == 0) = wordB v := by
    unfold wordB; rw [Bool.eq_iff_iff]; simp; omega
  go_enter Try.func77, Try.ntmps77
  go_wp2
  go_ret
  exact ⟨rfl, rfl⟩

/-- Does a head fit? -/
def fitsB (d s : Int) (tg : Bool) (tag ty : Int) : Bool := decide (d ≤ 281474976710655) && decide (s ≤ 281474976710655) && wordB tag && wordB ty && (ty != 33024) && (tg || tag == 0)

theorem fits_any (d s : Int) (tg : Bool) (tag ty : Int) (w : World) :
    Calls Try.prog 58 #[.agg #[.int .u64 d, .int .u64 s, .bool tg, .int .i64 tag, .int .i64 ty]] w fun e w' => e = .returned (.bool (fitsB d s tg tag ty)) ∧ w' = w.alloc (.cells #[.int .u64 d, .int .u64 s, .bool tg, .int .i64 tag, .int .i64 ty] 25) := by
  by_cases c1 : 281474976710655 < d
  · have e : fitsB d s tg tag ty = false := by simp [fitsB]; omega
    rw [e]
    go_enter Try.func58, Try.ntmps58
    go_wp2_with (go_at_call 77; refine (isWord_any _ _).mono ?_; rintro e w' ⟨rfl, rfl⟩)
    go_ret
    exact ⟨rfl, rfl⟩
  by_cases c2 : 281474976710655 < s
  · have e : fitsB d s tg tag ty = false := by simp [fitsB]; omega
    rw [e]
    go_enter Try.func58, Try.ntmps58
    go_wp2_with (go_at_call 77; refine (isWord_any _ _).mono ?_; rintro e w' ⟨rfl, rfl⟩)
    go_ret
    exact ⟨rfl, rfl⟩
  cases c3 : wordB tag
  · have e : fitsB d s tg tag ty = false := by simp [fitsB, c3]
    rw [e]
    go_enter Try.func58, Try.ntmps58
    go_wp2_with (go_at_call 77; refine (isWord_any _ _).mono ?_; rintro e w' ⟨rfl, rfl⟩)
    go_ret
    exact ⟨rfl, rfl⟩
  cases c4 : wordB ty
  · have e : fitsB d s tg tag ty = false := by simp [fitsB, c4]
    rw [e]
    go_enter Try.func58, Try.ntmps58
    go_wp2_with (go_at_call 77; refine (isWord_any _ _).mono ?_; rintro e w' ⟨rfl, rfl⟩)
    go_ret
    exact ⟨rfl, rfl⟩
  have e : fitsB d s tg tag ty = ((ty != 33024) && (tg || tag == 0)) := by
    have h1 : d ≤ 281474976710655 := by omega
    have h2 : s ≤ 281474976710655 := by omega
    simp [fitsB, c3, c4, h1, h2]
  rw [e]
  cases c5 : (ty != 33024)
  · go_enter Try.func58, Try.ntmps58
    go_wp2_with (go_at_call 77; refine (isWord_any _ _).mono ?_; rintro e w' ⟨rfl, rfl⟩)
    go_ret
    exact ⟨rfl, rfl⟩
  cases tg
  · go_enter Try.func58, Try.ntmps58
    go_wp2_with (go_at_call 77; refine (isWord_any _ _).mono ?_; rintro e w' ⟨rfl, rfl⟩)
    go_ret
    exact ⟨rfl, rfl⟩
  · go_enter Try.func58, Try.ntmps58
    go_wp2_with (go_at_call 77; refine (isWord_any _ _).mono ?_; rintro e w' ⟨rfl, rfl⟩)
    go_ret
    exact ⟨rfl, rfl⟩

/-- A head's bytes. -/
def headBytes (d s : Int) (tg : Bool) (tag ty : Int) : List Int := be d 6 ++ be s 6 ++ (if tg then be 33024 2 ++ be tag 2 else []) ++ be ty 2

theorem box_cells {w W : World} {d s : Int} {tg : Bool} {tag ty : Int} {o : Obj} (h : Below (w.heap.size + 1 + 1) ((w.alloc (.cells #[.int .u64 d, .int .u64 s, .bool tg, .int .i64 tag, .int .i64 ty] 25)).alloc o) W) :
    W.cell? ⟨w.heap.size, 0, none⟩ = some (.int .u64 d) ∧ W.cell? ⟨w.heap.size, 1, none⟩ = some (.int .u64 s) ∧ W.cell? ⟨w.heap.size, 2, none⟩ = some (.bool tg) ∧ W.cell? ⟨w.heap.size, 3, none⟩ = some (.int .i64 tag) ∧ W.cell? ⟨w.heap.size, 4, none⟩ = some (.int .i64 ty) := by
  refine ⟨?_, ?_, ?_, ?_, ?_⟩ <;> (rw [h.cell (by simp; omega)]; simp [go_sem])

theorem enc_start (w2 : World) (arr : Array Value) (c p g : Nat) (hp : p = w2.heap.size + 1) (hg : g = w2.heap.size) (hc : arr.size = c) (hm : c ≤ 1000000) :
    Enc w2 ((w2.alloc (.cells arr 5)).alloc (.cells #[.slice (some ⟨g, 0, none⟩) 0 c] 22)) p [] := by
  subst hp
  subst hg
  refine ⟨below2 w2 _ _, by omega, some ⟨w2.heap.size, 0, none⟩, c, ?_, ?_⟩
  · have := heap_alloc_new (w2.alloc (.cells arr 5)) (.cells #[.slice (some ⟨w2.heap.size, 0, none⟩) 0 c] 22)
    simpa using this
  · exact (World.ownsRow_made w2 arr c (Nat.le_refl _) (by unfold maxLen; omega) (by simpa using hc)).alloc _

theorem put_lit (w0 W : World) (p : Nat) (xs : List Int) (h : Enc w0 W p xs) (hn : xs.length ≤ 1000000) (v : Int) (hv : 0 ≤ v ∧ v ≤ 18446744073709551615) (s : Int) (hs0 : 0 ≤ s) (hs : s ≤ 8) :
    Calls Try.prog 59 #[.int .u64 v, .int .i64 s, .pointer (some ⟨p, 0, none⟩)] W fun e w' => e = .returned (.tuple #[]) ∧ Enc w0 w' p (xs ++ be v s.toNat) := by
  obtain ⟨s, rfl⟩ := Int.eq_ofNat_of_zero_le hs0
  exact put_any 59 rfl w0 W p xs h hn v hv s (by omega)

set_option maxHeartbeats 2000000 in
theorem encodeHead_plain (d s : Int) (tag ty : Int) (w : World) (hd : 0 ≤ d) (hs : 0 ≤ s) (h : fitsB d s false tag ty = true) :
    Calls Try.prog 29 #[.agg #[.int .u64 d, .int .u64 s, .bool false, .int .i64 tag, .int .i64 ty]] w fun e w' => ∃ a cap, e = .returned (.tuple #[.slice a (headBytes d s false tag ty).length cap, .int .i64 0]) ∧ w'.ownsRow w.heap.size 5 1 (.slice a (headBytes d s false tag ty).length cap) (headBytes d s false tag ty).length ((headBytes d s false tag ty).map (Value.int .u8)) ∧ Below w.heap.size w w' := by
  have hmk : ∀ w, (Instr.makeSlice 22 (.int .i64 0) (.int .i64 18)).run Try.prog w = .ok (.slice (some ⟨w.heap.size, 0, none⟩) 0 18) (w.alloc (.cells #[.int .u8 0, .int .u8 0, .int .u8 0, .int .u8 0, .int .u8 0, .int .u8 0, .int .u8 0, .int .u8 0, .int .u8 0, .int .u8 0, .int .u8 0, .int .u8 0, .int .u8 0, .int .u8 0, .int .u8 0, .int .u8 0, .int .u8 0, .int .u8 0] 5)) := fun _ => by kernel_rfl
  have hfit := h
  simp only [fitsB, Bool.and_eq_true, decide_eq_true_eq] at hfit
  obtain ⟨⟨⟨⟨⟨f1, f2⟩, f3⟩, f4⟩, _⟩, _⟩ := hfit
  have f3' := wordB_yes f3
  have f4' := wordB_yes f4
  clear f3 f4
  go_enter Try.func29, Try.ntmps29
  go_wp2_with (first | (go_at_call 58; refine (fits_any _ _ _ _ _ _).mono ?_; rintro e w' ⟨rfl, rfl⟩))
  clear hmk
  have he := enc_start ((w.alloc (.cells #[.int .u64 d, .int .u64 s, .bool false, .int .i64 tag, .int .i64 ty] 25)).alloc (.cells #[.int .u64 d, .int .u64 s, .bool false, .int .i64 tag, .int .i64 ty] 25)) #[.int .u8 0, .int .u8 0, .int .u8 0, .int .u8 0, .int .u8 0, .int .u8 0, .int .u8 0, .int .u8 0, .int .u8 0, .int .u8 0, .int .u8 0, .int .u8 0, .int .u8 0, .int .u8 0, .int .u8 0, .int .u8 0, .int .u8 0, .int .u8 0] 18 (w.heap.size + 1 + 1 + 1) (w.heap.size + 1 + 1) (by simp) (by simp) rfl (by omega)
  refine (put_lit _ _ _ _ he (by simp) d (by omega) 6 (by omega) (by omega)).mono ?_
  clear he
  rintro e W1 ⟨rfl, h1⟩
  have E1 : Hid _ := h1
  obtain ⟨x0, x1, x2, x3, x4⟩ := box_cells (by simpa using h1.bel)
  clear h1
  go_wp2_with fail
  clear x0 x1 x2 x3 x4
  refine (put_lit _ _ _ _ E1.out (by simp [be_len]) s (by omega) 6 (by omega) (by omega)).mono ?_
  clear E1
  rintro e W2 ⟨rfl, h2⟩
  have E2 : Hid _ := h2
  obtain ⟨x0, x1, x2, x3, x4⟩ := box_cells (by simpa using h2.bel)
  clear h2
  go_wp2_with fail
  clear x0 x1 x2 x3 x4
  refine (put_lit _ _ _ _ E2.out (by simp [be_len]) ty (by omega) 2 (by omega) (by omega)).mono ?_
  clear E2
  rintro e W3 ⟨rfl, h3⟩
  have ex : [] ++ be d (6 : Int).toNat ++ be s (6 : Int).toNat ++ be ty (2 : Int).toNat = headBytes d s false tag ty := by simp [headBytes]
  rw [ex] at h3
  clear ex
  have hb := h3.bel
  obtain ⟨a, cap, hc, ho⟩ := h3.row
  have hl := cell_of_one hc
  have HO : Hid _ := ho
  have HB : Hid _ := hb
  clear h3 hc ho hb
  go_wp2
  go_ret2
  refine ⟨a, cap, rfl, ?_, ?_⟩
  · have := HO.out
    obtain ⟨o1, o2⟩ := this
    refine ⟨o1, ?_⟩
    rcases o2 with o2 | ⟨g, c, cur, e1, e2, e3⟩
    · exact .inl o2
    · exact .inr ⟨g, c, cur, e1, by have := e2; simp at this; omega, e3⟩
  · exact (below2 w _ _).trans (HB.out.mono (by simp; omega))

set_option maxHeartbeats 2000000 in
theorem encodeHead_tagged (d s : Int) (tag ty : Int) (w : World) (hd : 0 ≤ d) (hs : 0 ≤ s) (h : fitsB d s true tag ty = true) :
    Calls Try.prog 29 #[.agg #[.int .u64 d, .int .u64 s, .bool true, .int .i64 tag, .int .i64 ty]] w fun e w' => ∃ a cap, e = .returned (.tuple #[.slice a (headBytes d s true tag ty).length cap, .int .i64 0]) ∧ w'.ownsRow w.heap.size 5 1 (.slice a (headBytes d s true tag ty).length cap) (headBytes d s true tag ty).length ((headBytes d s true tag ty).map (Value.int .u8)) ∧ Below w.heap.size w w' := by
  have hmk : ∀ w, (Instr.makeSlice 22 (.int .i64 0) (.int .i64 18)).run Try.prog w = .ok (.slice (some ⟨w.heap.size, 0, none⟩) 0 18) (w.alloc (.cells #[.int .u8 0, .int .u8 0, .int .u8 0, .int .u8 0, .int .u8 0, .int .u8 0, .int .u8 0, .int .u8 0, .int .u8 0, .int .u8 0, .int .u8 0, .int .u8 0, .int .u8 0, .int .u8 0, .int .u8 0, .int .u8 0, .int .u8 0, .int .u8 0] 5)) := fun _ => by kernel_rfl
  have hfit := h
  simp only [fitsB, Bool.and_eq_true, decide_eq_true_eq] at hfit
  obtain ⟨⟨⟨⟨⟨f1, f2⟩, f3⟩, f4⟩, _⟩, _⟩ := hfit
  have f3' := wordB_yes f3
  have f4' := wordB_yes f4
  clear f3 f4
  go_enter Try.func29, Try.ntmps29
  go_wp2_with (first | (go_at_call 58; refine (fits_any _ _ _ _ _ _).mono ?_; rintro e w' ⟨rfl, rfl⟩))
  clear hmk
  have he := enc_start ((w.alloc (.cells #[.int .u64 d, .int .u64 s, .bool true, .int .i64 tag, .int .i64 ty] 25)).alloc (.cells #[.int .u64 d, .int .u64 s, .bool true, .int .i64 tag, .int .i64 ty] 25)) #[.int .u8 0, .int .u8 0, .int .u8 0, .int .u8 0, .int .u8 0, .int .u8 0, .int .u8 0, .int .u8 0, .int .u8 0, .int .u8 0, .int .u8 0, .int .u8 0, .int .u8 0, .int .u8 0, .int .u8 0, .int .u8 0, .int .u8 0, .int .u8 0] 18 (w.heap.size + 1 + 1 + 1) (w.heap.size + 1 + 1) (by simp) (by simp) rfl (by omega)
  refine (put_lit _ _ _ _ he (by simp) d (by omega) 6 (by omega) (by omega)).mono ?_
  clear he
  rintro e W1 ⟨rfl, h1⟩
  have E1 : Hid _ := h1
  obtain ⟨x0, x1, x2, x3, x4⟩ := box_cells (by simpa using h1.bel)
  clear h1
  go_wp2_with fail
  clear x0 x1 x2 x3 x4
  refine (put_lit _ _ _ _ E1.out (by simp [be_len]) s (by omega) 6 (by omega) (by omega)).mono ?_
  clear E1
  rintro e W2 ⟨rfl, h2⟩
  have E2 : Hid _ := h2
  obtain ⟨x0, x1, x2, x3, x4⟩ := box_cells (by simpa using h2.bel)
  clear h2
  go_wp2_with fail
  clear x0 x1 x2 x3 x4
  refine (put_lit _ _ _ _ E2.out (by simp [be_len]) 33024 (by omega) 2 (by omega) (by omega)).mono ?_
  clear E2
  rintro e W3 ⟨rfl, h3⟩
  have E3 : Hid _ := h3
  obtain ⟨x0, x1, x2, x3, x4⟩ := box_cells (by simpa using h3.bel)
  clear h3
  go_wp2_with fail
  clear x0 x1 x2 x3 x4
  refine (put_lit _ _ _ _ E3.out (by simp [be_len]) tag (by omega) 2 (by omega) (by omega)).mono ?_
  clear E3
  rintro e W4 ⟨rfl, h4⟩
  have E4 : Hid _ := h4
  obtain ⟨x0, x1, x2, x3, x4⟩ := box_cells (by simpa using h4.bel)
  clear h4
  go_wp2_with fail
  clear x0 x1 x2 x3 x4
  refine (put_lit _ _ _ _ E4.out (by simp [be_len]) ty (by omega) 2 (by omega) (by omega)).mono ?_
  clear E4
  rintro e W5 ⟨rfl, h5⟩
  have ex : [] ++ be d (6 : Int).toNat ++ be s (6 : Int).toNat ++ be 33024 (2 : Int).toNat ++ be tag (2 : Int).toNat ++ be ty (2 : Int).toNat = headBytes d s true tag ty := by simp [headBytes]
  rw [ex] at h5
  clear ex
  have hb := h5.bel
  obtain ⟨a, cap, hc, ho⟩ := h5.row
  have hl := cell_of_one hc
  have HO : Hid _ := ho
  have HB : Hid _ := hb
  clear h5 hc ho hb
  go_wp2
  go_ret2
  refine ⟨a, cap, rfl, ?_, ?_⟩
  · have := HO.out
    obtain ⟨o1, o2⟩ := this
    refine ⟨o1, ?_⟩
    rcases o2 with o2 | ⟨g, c, cur, e1, e2, e3⟩
    · exact .inl o2
    · exact .inr ⟨g, c, cur, e1, by have := e2; simp at this; omega, e3⟩
  · exact (below2 w _ _).trans (HB.out.mono (by simp; omega))
end Go.Proofs.Ytpiokeidcnbmbaa.Eth

namespace Go.Proofs.Ytpiokeidcnbmbaa.Eth
open Go.RowKit

/-- Does an ARP packet fit? -/
def arpFits (op sha tha : Int) : Bool := decide (sha ≤ 281474976710655) && decide (tha ≤ 281474976710655) && wordB op
def arpBytes (op sha spa tha tpa : Int) : List Int := [0, 1, 8, 0, 6, 4] ++ be op 2 ++ be sha 6 ++ be spa 4 ++ be tha 6 ++ be tpa 4

set_option maxHeartbeats 1000000 in
theorem putA_any (f : Nat) (hf : f = 78) (w0 W : World) (p : Nat) (xs : List Int) (h : Enc w0 W p xs) (hn : xs.length ≤ 1000000) (v : Int) (hv : 0 ≤ v ∧ v ≤ 18446744073709551615) (s : Nat) (hs : s ≤ 8) :
    Calls Try.prog f #[.int .u64 v, .int .i64 s, .pointer (some ⟨p, 0, none⟩)] W fun e w' => e = .returned (.tuple #[]) ∧ Enc w0 w' p (xs ++ be v s) := by
  subst hf
  obtain ⟨hb, hp, a, cap, hc, ho⟩ := h
  have hc0 := cell_of_one hc
  have hf0 := free_of_one hc
  have HC : Hid _ := hc
  have HO : Hid _ := ho
  have HB : Hid _ := hb
  clear hc ho hb
  go_enter Try.func78, Try.ntmps78
  go_wp2_with fail
  refine (appendNumber_any w0.heap.size W a xs.length cap xs HO.out HB.out.size hn v hv s hs).mono ?_
  rintro e w1 ⟨a', cap', rfl, hr⟩
  have hap := row_apart HO.out HC.out
  have hc1 : w1.heap[p]? = some (.cells #[.slice a xs.length cap] 22 (0, 0)) := (hr.grown.block p (lt_of_block HC.out) (fun e => hap e.symm)).trans HC.out
  have hc1' := cell_of_one hc1
  have hf1 := free_of_one hc1
  have HC1 : Hid _ := hc1
  have HR : Hid _ := hr
  clear hc1 hr hap hc0 hf0
  go_wp2
  go_end0
  refine ⟨rfl, ?_, hp, a', cap', ?_, ?_⟩
  · exact (HB.out.grown HR.out.grown HB.out.size (fun k hk => (World.ownsRow.lt HO.out k hk).1)).setCell hp _
  · rw [one_setCell HC1.out]; simp [be_len]
  · rw [show (xs ++ be v s).length = xs.length + s from by simp [be_len]]
    exact ownsRow_setCell_other HR.out.own (row_apart HR.out.own HC1.out) _

theorem putA_lit (w0 W : World) (p : Nat) (xs : List Int) (h : Enc w0 W p xs) (hn : xs.length ≤ 1000000) (v : Int) (hv : 0 ≤ v ∧ v ≤ 18446744073709551615) (s : Int) (hs0 : 0 ≤ s) (hs : s ≤ 8) :
    Calls Try.prog 78 #[.int .u64 v, .int .i64 s, .pointer (some ⟨p, 0, none⟩)] W fun e w' => e = .returned (.tuple #[]) ∧ Enc w0 w' p (xs ++ be v s.toNat) := by
  obtain ⟨s, rfl⟩ := Int.eq_ofNat_of_zero_le hs0
  exact putA_any 78 rfl w0 W p xs h hn v hv s (by omega)

theorem enc_start_n (w2 : World) (arr : Array Value) (xs : List Int) (c p g : Nat) (hp : p = w2.heap.size + 1) (hg : g = w2.heap.size) (hc : arr.size = c) (hm : c ≤ 1000000) (hn : xs.length ≤ c) (hx : arr.toList.take xs.length = xs.map (Value.int .u8)) :
    Enc w2 ((w2.alloc (.cells arr 5)).alloc (.cells #[.slice (some ⟨g, 0, none⟩) xs.length c] 22)) p xs := by
  subst hp
  subst hg
  refine ⟨below2 w2 _ _, by omega, some ⟨w2.heap.size, 0, none⟩, c, ?_, ?_⟩
  · have := heap_alloc_new (w2.alloc (.cells arr 5)) (.cells #[.slice (some ⟨w2.heap.size, 0, none⟩) xs.length c] 22)
    simpa using this
  · refine World.ownsRow.alloc (w := w2.alloc (.cells arr 5)) ⟨by simp, .inr ⟨w2.heap.size, c, arr, rfl, Nat.le_refl _, heap_alloc_new w2 _, hn, by unfold maxLen; omega, by simpa using hc, by simpa using hx⟩⟩ _

theorem arp_cells {w W : World} {op sha spa tha tpa : Int} (h : Below (w.heap.size + 1) (w.alloc (.cells #[.int .i64 op, .int .u64 sha, .int .u32 spa, .int .u64 tha, .int .u32 tpa] 28)) W) :
    W.cell? ⟨w.heap.size, 0, none⟩ = some (.int .i64 op) ∧ W.cell? ⟨w.heap.size, 1, none⟩ = some (.int .u64 sha) ∧ W.cell? ⟨w.heap.size, 2, none⟩ = some (.int .u32 spa) ∧ W.cell? ⟨w.heap.size, 3, none⟩ = some (.int .u64 tha) ∧ W.cell? ⟨w.heap.size, 4, none⟩ = some (.int .u32 tpa) := by
  refine ⟨?_, ?_, ?_, ?_, ?_⟩ <;> (rw [h.cell (by simp)]; simp [go_sem])

set_option maxHeartbeats 2000000 in
theorem encodeArp_yes (op sha spa tha tpa : Int) (w : World) (h1 : 0 ≤ sha) (h2 : 0 ≤ spa ∧ spa ≤ 4294967295) (h3 : 0 ≤ tha) (h4 : 0 ≤ tpa ∧ tpa ≤ 4294967295) (h : arpFits op sha tha = true) :
    Calls Try.prog 61 #[.agg #[.int .i64 op, .int .u64 sha, .int .u32 spa, .int .u64 tha, .int .u32 tpa]] w fun e w' => ∃ a cap, e = .returned (.tuple #[.slice a 28 cap, .int .i64 0]) ∧ w'.ownsRow w.heap.size 5 1 (.slice a 28 cap) 28 ((arpBytes op sha spa tha tpa).map (Value.int .u8)) ∧ Below w.heap.size w w' := by
  have hmk : ∀ w, (Instr.makeSlice 22 (.int .i64 0) (.int .i64 28)).run Try.prog w = .ok (.slice (some ⟨w.heap.size, 0, none⟩) 0 28) (w.alloc (.cells #[.int .u8 0, .int .u8 0, .int .u8 0, .int .u8 0, .int .u8 0, .int .u8 0, .int .u8 0, .int .u8 0, .int .u8 0, .int .u8 0, .int .u8 0, .int .u8 0, .int .u8 0, .int .u8 0, .int .u8 0, .int .u8 0, .int .u8 0, .int .u8 0, .int .u8 0, .int .u8 0, .int .u8 0, .int .u8 0, .int .u8 0, .int .u8 0, .int .u8 0, .int .u8 0, .int .u8 0, .int .u8 0] 5)) := fun _ => by kernel_rfl
  have hfit := h
  simp only [arpFits, Bool.and_eq_true, decide_eq_true_eq] at hfit
  obtain ⟨⟨f1, f2⟩, f3⟩ := hfit
  have f3' := wordB_yes f3
  have g1 : ¬ 281474976710655 < sha := by omega
  have g2 : ¬ 281474976710655 < tha := by omega
  go_enter Try.func61, Try.ntmps61
  go_wp2_with (first | (go_at_call 77; refine (isWord_any _ _).mono ?_; rintro e w' ⟨rfl, rfl⟩))
  clear hmk
  have he := enc_start_n (w.alloc (.cells #[.int .i64 op, .int .u64 sha, .int .u32 spa, .int .u64 tha, .int .u32 tpa] 28)) #[.int .u8 0, .int .u8 1, .int .u8 8, .int .u8 0, .int .u8 6, .int .u8 4, .int .u8 0, .int .u8 0, .int .u8 0, .int .u8 0, .int .u8 0, .int .u8 0, .int .u8 0, .int .u8 0, .int .u8 0, .int .u8 0, .int .u8 0, .int .u8 0, .int .u8 0, .int .u8 0, .int .u8 0, .int .u8 0, .int .u8 0, .int .u8 0, .int .u8 0, .int .u8 0, .int .u8 0, .int .u8 0] [0, 1, 8, 0, 6, 4] 28 (w.heap.size + 1 + 1) (w.heap.size + 1) (by simp) (by simp) rfl (by omega) (by simp) rfl
  refine (putA_lit _ _ _ _ he (by simp) op (by omega) 2 (by omega) (by omega)).mono ?_
  clear he
  rintro e W1 ⟨rfl, e1⟩
  have E1 : Hid _ := e1
  obtain ⟨x0, x1, x2, x3, x4⟩ := arp_cells (by simpa using e1.bel)
  clear e1
  go_wp2_with fail
  clear x0 x1 x2 x3 x4
  refine (putA_lit _ _ _ _ E1.out (by simp [be_len]) sha (by omega) 6 (by omega) (by omega)).mono ?_
  clear E1
  rintro e W2 ⟨rfl, e2⟩
  have E2 : Hid _ := e2
  obtain ⟨x0, x1, x2, x3, x4⟩ := arp_cells (by simpa using e2.bel)
  clear e2
  go_wp2_with fail
  clear x0 x1 x2 x3 x4
  refine (putA_lit _ _ _ _ E2.out (by simp [be_len]) spa (by omega) 4 (by omega) (by omega)).mono ?_
  clear E2
  rintro e W3 ⟨rfl, e3⟩
  have E3 : Hid _ := e3
  obtain ⟨x0, x1, x2, x3, x4⟩ := arp_cells (by simpa using e3.bel)
  clear e3
  go_wp2_with fail
  clear x0 x1 x2 x3 x4
  refine (putA_lit _ _ _ _ E3.out (by simp [be_len]) tha (by omega) 6 (by omega) (by omega)).mono ?_
  clear E3
  rintro e W4 ⟨rfl, e4⟩
  have E4 : Hid _ := e4
  obtain ⟨x0, x1, x2, x3, x4⟩ := arp_cells (by simpa using e4.bel)
  clear e4
  go_wp2_with fail
  clear x0 x1 x2 x3 x4
  refine (putA_lit _ _ _ _ E4.out (by simp [be_len]) tpa (by omega) 4 (by omega) (by omega)).mono ?_
  clear E4
  rintro e W5 ⟨rfl, e5⟩
  have ex : [0, 1, 8, 0, 6, 4] ++ be op (2 : Int).toNat ++ be sha (6 : Int).toNat ++ be spa (4 : Int).toNat ++ be tha (6 : Int).toNat ++ be tpa (4 : Int).toNat = arpBytes op sha spa tha tpa := rfl
  rw [ex] at e5
  clear ex
  have hlen : (arpBytes op sha spa tha tpa).length = 28 := by simp [arpBytes, be_len]
  have hb := e5.bel
  obtain ⟨a, cap, hc, ho⟩ := e5.row
  rw [hlen] at hc ho
  have hl := cell_of_one hc
  have HO : Hid _ := ho
  have HB : Hid _ := hb
  clear e5 hc ho hb hlen
  go_wp2
  go_ret2
  refine ⟨a, cap, rfl, ?_, ?_⟩
  · obtain ⟨o1, o2⟩ := HO.out
    refine ⟨o1, ?_⟩
    rcases o2 with o2 | ⟨g, c, cur, e1, e2, e3⟩
    · exact .inl o2
    · exact .inr ⟨g, c, cur, e1, by have := e2; simp at this; omega, e3⟩
  · exact (below1 w _).trans (HB.out.mono (by simp))
end Go.Proofs.Ytpiokeidcnbmbaa.Eth

namespace Go.Proofs.Ytpiokeidcnbmbaa.Eth
open Go.RowKit
/-- What a frame's head is. -/
def headV (zs : List Int) : Value :=
  if 9018 < zs.length then ethV 0 0 false 0 0 0 3
  else if zs.length < 14 then ethV 0 0 false 0 0 0 20
  else if num ((zs.drop 12).take 2) ≠ 33024 then ethV (num (zs.take 6)) (num ((zs.drop 6).take 6)) false 0 (num ((zs.drop 12).take 2)) 14 0
  else if zs.length < 18 then ethV 0 0 false 0 0 0 20
  else if num ((zs.drop 16).take 2) = 33024 then ethV 0 0 false 0 0 0 21
  else ethV (num (zs.take 6)) (num ((zs.drop 6).take 6)) true (num ((zs.drop 14).take 2)) (num ((zs.drop 16).take 2)) 18 0

theorem head_any {w : World} {a : Option Addr} {n : Nat} (cap : Nat) {zs : List Int} (h : BS w a n zs) (hcap : n ≤ cap) (hm : cap ≤ 9223372036854775807) :
    Calls Try.prog 18 #[.slice a n cap] w fun e w' => e = .returned (headV zs) ∧ Below w.heap.size w w' := by
  have hl := h.len
  unfold headV
  rw [hl]
  by_cases h1 : 9018 < n
  · rw [if_pos h1]; exact head_long w a n cap h1
  rw [if_neg h1]
  by_cases h2 : n < 14
  · rw [if_pos h2]; exact head_short w a n cap h2
  rw [if_neg h2]
  obtain ⟨b, off, rfl, _⟩ := h.cells.resolve_left (by omega)
  by_cases h3 : num ((zs.drop 12).take 2) ≠ 33024
  · rw [if_pos h3]; exact head_plain w b off n cap zs h hcap hm (by omega) (by omega) h3
  rw [if_neg h3]
  have h3' : num ((zs.drop 12).take 2) = 33024 := Classical.not_not.1 h3
  by_cases h4 : n < 18
  · rw [if_pos h4]; exact head_short2 w b off n cap zs h hcap hm (by omega) (by omega) h3'
  rw [if_neg h4]
  by_cases h5 : num ((zs.drop 16).take 2) = 33024
  · rw [if_pos h5]; exact head_twice w b off n cap zs h hcap hm (by omega) (by omega) h3' h5
  · rw [if_neg h5]; exact head_tagged w b off n cap zs h hcap hm (by omega) (by omega) h3' h5

theorem fitsB_mk {d s : Int} {tg : Bool} {tag ty : Int} (h1 : d ≤ 281474976710655) (h2 : s ≤ 281474976710655) (h3 : 0 ≤ tag ∧ tag ≤ 65535) (h4 : 0 ≤ ty ∧ ty ≤ 65535) (h5 : ty ≠ 33024) (h6 : tg = true ∨ tag = 0) : fitsB d s tg tag ty = true := by
  simp only [fitsB, wordB, h1, h2, h3, h4, Bool.and_eq_true, decide_eq_true_eq, and_self, true_and]
  refine ⟨by simp [h5], ?_⟩
  rcases h6 with rfl | rfl <;> simp

/-- What a head that is read is good for. -/
theorem head_cases (zs : List Int) (h : ∀ i, 0 ≤ zs.getD i 0 ∧ zs.getD i 0 ≤ 255) :
    (∃ e, (e = 3 ∨ e = 20 ∨ e = 21) ∧ headV zs = ethV 0 0 false 0 0 0 e) ∨
    ∃ d s tg tag ty, ∃ n : Nat, headV zs = ethV d s tg tag ty n 0 ∧ fitsB d s tg tag ty = true ∧ 0 ≤ d ∧ 0 ≤ s ∧ headBytes d s tg tag ty = zs.take n ∧ n ≤ zs.length := by
  unfold headV
  by_cases h1 : 9018 < zs.length
  · rw [if_pos h1]; exact .inl ⟨3, .inl rfl, rfl⟩
  rw [if_neg h1]
  by_cases h2 : zs.length < 14
  · rw [if_pos h2]; exact .inl ⟨20, .inr (.inl rfl), rfl⟩
  rw [if_neg h2]
  have n6 : ∀ l, l + 6 ≤ zs.length → 0 ≤ num ((zs.drop l).take 6) ∧ num ((zs.drop l).take 6) ≤ 281474976710655 := fun l hl => by
    have := num_lt _ (fits_take (fits_drop h l) 6)
    rw [show ((zs.drop l).take 6).length = 6 from by simp; omega, show (256 : Int) ^ 6 = 281474976710656 from by decide] at this
    omega
  have n2 : ∀ l, l + 2 ≤ zs.length → 0 ≤ num ((zs.drop l).take 2) ∧ num ((zs.drop l).take 2) ≤ 65535 := fun l hl => by
    have := num_lt _ (fits_take (fits_drop h l) 2)
    rw [show ((zs.drop l).take 2).length = 2 from by simp; omega, show (256 : Int) ^ 2 = 65536 from by decide] at this
    omega
  have b6 : ∀ l, l + 6 ≤ zs.length → be (num ((zs.drop l).take 6)) 6 = (zs.drop l).take 6 := fun l hl => be_num_k _ (fits_take (fits_drop h l) 6) 6 (by simp; omega)
  have b2 : ∀ l, l + 2 ≤ zs.length → be (num ((zs.drop l).take 2)) 2 = (zs.drop l).take 2 := fun l hl => be_num_k _ (fits_take (fits_drop h l) 2) 2 (by simp; omega)
  have d0 := n6 0 (by omega)
  have e0 := b6 0 (by omega)
  simp only [List.drop_zero] at d0 e0
  have d6 := n6 6 (by omega)
  have d12 := n2 12 (by omega)
  by_cases h3 : num ((zs.drop 12).take 2) ≠ 33024
  · rw [if_pos h3]
    refine .inr ⟨_, _, _, _, _, 14, rfl, fitsB_mk d0.2 d6.2 (by omega) d12 h3 (.inr rfl), d0.1, d6.1, ?_, by omega⟩
    simp only [headBytes, e0, b6 6 (by omega), b2 12 (by omega)]
    rw [show zs.take 14 = zs.take (6 + 6 + 2) from rfl, List.take_add, List.take_add]
    simp
  rw [if_neg h3]
  by_cases h4 : zs.length < 18
  · rw [if_pos h4]; exact .inl ⟨20, .inr (.inl rfl), rfl⟩
  rw [if_neg h4]
  by_cases h5 : num ((zs.drop 16).take 2) = 33024
  · rw [if_pos h5]; exact .inl ⟨21, .inr (.inr rfl), rfl⟩
  · rw [if_neg h5]
    have d14 := n2 14 (by omega)
    have d16 := n2 16 (by omega)
    have e12 : be 33024 2 = (zs.drop 12).take 2 := by rw [← b2 12 (by omega), Classical.not_not.1 h3]
    refine .inr ⟨_, _, _, _, _, 18, rfl, fitsB_mk d0.2 d6.2 d14 d16 h5 (.inl rfl), d0.1, d6.1, ?_, by omega⟩
    simp only [headBytes, e0, b6 6 (by omega), b2 14 (by omega), b2 16 (by omega), e12]
    rw [show zs.take 18 = zs.take (6 + 6 + 2 + 2 + 2) from rfl, List.take_add, List.take_add, List.take_add, List.take_add]
    simp

/-- A head's bytes, read again. -/
theorem head_back (d s : Int) (tg : Bool) (tag ty : Int) (behind : List Int) (hd : 0 ≤ d) (hs : 0 ≤ s) (hf : fitsB d s tg tag ty = true) (hl : (headBytes d s tg tag ty).length + behind.length ≤ 9018) :
    headV (headBytes d s tg tag ty ++ behind) = ethV d s tg tag ty (headBytes d s tg tag ty).length 0 := by
  have hfit := hf
  simp only [fitsB, Bool.and_eq_true, decide_eq_true_eq] at hfit
  obtain ⟨⟨⟨⟨⟨f1, f2⟩, f3⟩, f4⟩, f5⟩, f6⟩ := hfit
  have f3' := wordB_yes f3
  have f4' := wordB_yes f4
  have f5' : ty ≠ 33024 := by simpa using f5
  have l6 : ∀ v, (be v 6).length = 6 := fun v => be_len v 6
  have l2 : ∀ v, (be v 2).length = 2 := fun v => be_len v 2
  have z6 : ∀ v k, 6 ≤ k → (be v 6).drop k = [] := fun v k hk => List.drop_of_length_le (by rw [l6]; omega)
  have z2 : ∀ v k, 2 ≤ k → (be v 2).drop k = [] := fun v k hk => List.drop_of_length_le (by rw [l2]; omega)
  cases tg
  · have f6' : tag = 0 := by simpa using f6
    subst f6'
    have hlen : (headBytes d s false 0 ty).length = 14 := by simp [headBytes, be_len]
    rw [hlen] at hl
    have t0 : (headBytes d s false 0 ty ++ behind).take 6 = be d 6 := by simp [headBytes, l6]
    have t6 : ((headBytes d s false 0 ty ++ behind).drop 6).take 6 = be s 6 := by simp [headBytes, l6]
    have t12 : ((headBytes d s false 0 ty ++ behind).drop 12).take 2 = be ty 2 := by simp [headBytes, l6, l2, List.take_append, List.drop_append]
    unfold headV
    rw [List.length_append, hlen, if_neg (by omega), if_neg (by omega), t0, t6, t12, num_be6 d hd f1, num_be6 s hs f2, num_be2 ty f4'.1 f4'.2, if_pos f5']
    rfl
  · have hlen : (headBytes d s true tag ty).length = 18 := by simp [headBytes, be_len]
    rw [hlen] at hl
    have t0 : (headBytes d s true tag ty ++ behind).take 6 = be d 6 := by simp [headBytes, l6]
    have t6 : ((headBytes d s true tag ty ++ behind).drop 6).take 6 = be s 6 := by simp [headBytes, l6]
    have t12 : ((headBytes d s true tag ty ++ behind).drop 12).take 2 = be 33024 2 := by simp [headBytes, l6, l2, List.take_append, List.drop_append]
    have t14 : ((headBytes d s true tag ty ++ behind).drop 14).take 2 = be tag 2 := by simp [headBytes, l6, l2, List.drop_append, z6 _ 14 (by omega), z6 _ 8 (by omega)]
    have t16 : ((headBytes d s true tag ty ++ behind).drop 16).take 2 = be ty 2 := by simp [headBytes, l6, l2, List.drop_append, z6 _ 16 (by omega), z6 _ 10 (by omega), z2 _ 4 (by omega)]
    unfold headV
    rw [List.length_append, hlen, if_neg (by omega), if_neg (by omega), t0, t6, t12, t14, t16, num_be6 d hd f1, num_be6 s hs f2, num_be2 ty f4'.1 f4'.2, num_be2 tag f3'.1 f3'.2, num_be2 33024 (by omega) (by omega), if_neg (by simp), if_neg (by omega), if_neg f5']
    rfl

theorem arpBytes_bd (op sha spa tha tpa : Int) : ∀ i, 0 ≤ (arpBytes op sha spa tha tpa).getD i 0 ∧ (arpBytes op sha spa tha tpa).getD i 0 ≤ 255 := by
  have h6 : ∀ i, 0 ≤ ([0, 1, 8, 0, 6, 4] : List Int).getD i 0 ∧ ([0, 1, 8, 0, 6, 4] : List Int).getD i 0 ≤ 255 := by
    intro i
    match i with
    | 0 | 1 | 2 | 3 | 4 | 5 => simp
    | i + 6 => simp
  exact fits_append (fits_append (fits_append (fits_append (fits_append h6 (be_bd _ _)) (be_bd _ _)) (be_bd _ _)) (be_bd _ _)) (be_bd _ _)
theorem arpBytes_len (op sha spa tha tpa : Int) : (arpBytes op sha spa tha tpa).length = 28 := by simp [arpBytes, be_len]

/-- What an ARP packet that is read is good for. -/
theorem arp_cases (zs : List Int) (h : ∀ i, 0 ≤ zs.getD i 0 ∧ zs.getD i 0 ≤ 255) :
    (∃ e, (e = 20 ∨ e = 21) ∧ arpOf zs = arpV 0 0 0 0 0 e) ∨
    ∃ op sha spa tha tpa, arpOf zs = arpV op sha spa tha tpa 0 ∧ arpFits op sha tha = true ∧ 0 ≤ sha ∧ (0 ≤ spa ∧ spa ≤ 4294967295) ∧ 0 ≤ tha ∧ (0 ≤ tpa ∧ tpa ≤ 4294967295) ∧ arpBytes op sha spa tha tpa = zs.take 28 ∧ 28 ≤ zs.length := by
  unfold arpOf
  by_cases h2 : zs.length < 28
  · rw [if_pos h2]; exact .inl ⟨20, .inl rfl, rfl⟩
  rw [if_neg h2]
  by_cases h3 : num (zs.take 6) ≠ 4429186564
  · rw [if_pos h3]; exact .inl ⟨21, .inr rfl, rfl⟩
  rw [if_neg h3]
  have nk : ∀ l k, l + k ≤ zs.length → 0 ≤ num ((zs.drop l).take k) ∧ num ((zs.drop l).take k) < 256 ^ k := fun l k hl => by
    have := num_lt _ (fits_take (fits_drop h l) k)
    rwa [show ((zs.drop l).take k).length = k from by simp; omega] at this
  have bk : ∀ l k, l + k ≤ zs.length → be (num ((zs.drop l).take k)) k = (zs.drop l).take k := fun l k hl => be_num_k _ (fits_take (fits_drop h l) k) k (by simp; omega)
  have p2 : (256 : Int) ^ 2 = 65536 := by decide
  have p4 : (256 : Int) ^ 4 = 4294967296 := by decide
  have p6 : (256 : Int) ^ 6 = 281474976710656 := by decide
  have d6 := nk 6 2 (by omega)
  have d8 := nk 8 6 (by omega)
  have d14 := nk 14 4 (by omega)
  have d18 := nk 18 6 (by omega)
  have d24 := nk 24 4 (by omega)
  rw [p2] at d6
  rw [p4] at d14 d24
  rw [p6] at d8 d18
  have e0 : ([0, 1, 8, 0, 6, 4] : List Int) = zs.take 6 := ((form_iff (zs.take 6) (fits_take h 6) (by simp; omega)).1 (Classical.not_not.1 h3)).symm
  refine .inr ⟨_, _, _, _, _, rfl, ?_, d8.1, ⟨d14.1, by omega⟩, d18.1, ⟨d24.1, by omega⟩, ?_, by omega⟩
  · simp only [arpFits, wordB, Bool.and_eq_true, decide_eq_true_eq]
    omega
  · simp only [arpBytes, bk 6 2 (by omega), bk 8 6 (by omega), bk 14 4 (by omega), bk 18 6 (by omega), bk 24 4 (by omega), e0]
    rw [show zs.take 28 = zs.take (6 + 2 + 6 + 4 + 6 + 4) from rfl, List.take_add, List.take_add, List.take_add, List.take_add, List.take_add]

theorem arp_back (op sha spa tha tpa : Int) (behind : List Int) (h1 : 0 ≤ sha) (h2 : 0 ≤ spa ∧ spa ≤ 4294967295) (h3 : 0 ≤ tha) (h4 : 0 ≤ tpa ∧ tpa ≤ 4294967295) (hf : arpFits op sha tha = true) :
    arpOf (arpBytes op sha spa tha tpa ++ behind) = arpV op sha spa tha tpa 0 := by
  simp only [arpFits, Bool.and_eq_true, decide_eq_true_eq] at hf
  obtain ⟨⟨f1, f2⟩, f3⟩ := hf
  have f3' := wordB_yes f3
  have l6 : ∀ v, (be v 6).length = 6 := fun v => be_len v 6
  have l4 : ∀ v, (be v 4).length = 4 := fun v => be_len v 4
  have l2 : ∀ v, (be v 2).length = 2 := fun v => be_len v 2
  have cut : ∀ (A B C : List Int) (l k : Nat), A.length = l → B.length = k → ((A ++ B ++ C).drop l).take k = B := fun A B C l k hl hk => by
    rw [List.append_assoc, List.drop_append, List.drop_of_length_le (by omega), List.nil_append, show l - A.length = 0 from by omega, List.drop_zero, List.take_append, List.take_of_length_le (by omega), show k - B.length = 0 from by omega]
    simp
  have t0 : (arpBytes op sha spa tha tpa ++ behind).take 6 = [0, 1, 8, 0, 6, 4] := by simp [arpBytes]
  have t6 : ((arpBytes op sha spa tha tpa ++ behind).drop 6).take 2 = be op 2 := by
    rw [show arpBytes op sha spa tha tpa ++ behind = [0, 1, 8, 0, 6, 4] ++ be op 2 ++ (be sha 6 ++ be spa 4 ++ be tha 6 ++ be tpa 4 ++ behind) from by simp [arpBytes]]
    exact cut _ _ _ _ _ rfl (l2 _)
  have t8 : ((arpBytes op sha spa tha tpa ++ behind).drop 8).take 6 = be sha 6 := by
    rw [show arpBytes op sha spa tha tpa ++ behind = ([0, 1, 8, 0, 6, 4] ++ be op 2) ++ be sha 6 ++ (be spa 4 ++ be tha 6 ++ be tpa 4 ++ behind) from by simp [arpBytes]]
    exact cut _ _ _ _ _ (by simp [l2]) (l6 _)
  have t14 : ((arpBytes op sha spa tha tpa ++ behind).drop 14).take 4 = be spa 4 := by
    rw [show arpBytes op sha spa tha tpa ++ behind = ([0, 1, 8, 0, 6, 4] ++ be op 2 ++ be sha 6) ++ be spa 4 ++ (be tha 6 ++ be tpa 4 ++ behind) from by simp [arpBytes]]
    exact cut _ _ _ _ _ (by simp [l2, l6]) (l4 _)
  have t18 : ((arpBytes op sha spa tha tpa ++ behind).drop 18).take 6 = be tha 6 := by
    rw [show arpBytes op sha spa tha tpa ++ behind = ([0, 1, 8, 0, 6, 4] ++ be op 2 ++ be sha 6 ++ be spa 4) ++ be tha 6 ++ (be tpa 4 ++ behind) from by simp [arpBytes]]
    exact cut _ _ _ _ _ (by simp [l2, l6, l4]) (l6 _)
  have t24 : ((arpBytes op sha spa tha tpa ++ behind).drop 24).take 4 = be tpa 4 := by
    rw [show arpBytes op sha spa tha tpa ++ behind = ([0, 1, 8, 0, 6, 4] ++ be op 2 ++ be sha 6 ++ be spa 4 ++ be tha 6) ++ be tpa 4 ++ behind from by simp [arpBytes]]
    exact cut _ _ _ _ _ (by simp [l2, l6, l4]) (l4 _)
  unfold arpOf
  rw [List.length_append, arpBytes_len, if_neg (by omega), t0, t6, t8, t14, t18, t24, num_be2 op f3'.1 f3'.2, num_be6 sha h1 f1, num_be4 spa h2.1 h2.2, num_be6 tha h3 f2, num_be4 tpa h4.1 h4.2, if_neg (by decide)]
end Go.Proofs.Ytpiokeidcnbmbaa.Eth
