/- And, Implies, Meet of package match; same of the laws at one list twice. Conditions: the terms can be read. -/
import Derived.Test.YtpinhnkceaephaaDoorMF
namespace Go.Proofs.YtpinhnkceaephaaDoor
open Go.RowKit

theorem abV_zero {f : Int} (h : ¬ (1 ≤ f ∧ f ≤ 28)) : abV f = 0 := by
  unfold abV abN
  rw [if_neg h]
  rfl
theorem okT_field {t : Tm} (h : okT abV t = true) : 1 ≤ t.f ∧ t.f ≤ 28 := by
  obtain ⟨h1, h2, _⟩ := okT_m h
  refine Decidable.byContradiction fun hn => ?_
  rw [abV_zero hn, andn] at h2
  obtain ⟨i, hi⟩ := bvn.1 h1
  have := h2 i hi
  simp at this
/-- A match in form has at most 28 terms. -/
theorem chk_len {k : Int} {l : List Tm} (h : chk abV k l = true) (h0 : 0 ≤ k) (hk : k ≤ 28) : (l.length : Int) + k ≤ 28 := by
  induction l generalizing k with
  | nil => simpa using hk
  | cons t r ih =>
    obtain ⟨h1, h2, h3⟩ := chk_cons h
    have hf := okT_field h2
    have := ih h3 (by omega) hf.2
    simp only [List.length_cons]
    omega
theorem chk_le {l : List Tm} (h : chk abV 0 l = true) : l.length ≤ 28 := by
  have := chk_len h (by omega) (by omega)
  omega
/-- And of two, as lists. -/
def andOf (la lb : List Tm) : Option (List Tm) := if (chk abV 0 la && chk abV 0 lb) = true then jn la lb else none
def errOf (la lb : List Tm) : Int := if (chk abV 0 la && chk abV 0 lb) = true then 0 else 90
def impOf (la lb : List Tm) : Bool := chk abV 0 la && chk abV 0 lb && fol la lb
theorem both_err (la lb : List Tm) : (if chk abV 0 la = true then chkE lb else 90) = errOf la lb := by
  unfold errOf chkE
  cases chk abV 0 la <;> cases chk abV 0 lb <;> rfl
theorem both_any (v u : Value) (la lb : List Tm) (w : World) (ha : TV w v la) (hb : TV w u lb) : Calls Tryd.prog 19 #[v, u] w fun e w' => e = .returned (.int .i64 (errOf la lb)) ∧ Below w.heap.size w w' := by
  rw [← both_err]; exact checkBoth_any v u la lb w ha hb
set_option maxHeartbeats 400000 in
theorem and_any (v u : Value) (la lb : List Tm) (w : World) (ha : TV w v la) (hb : TV w u lb) : Calls Tryd.prog 7 #[v, u] w fun e w' =>
    ∃ x, e = .returned (.tuple #[x, .bool (andOf la lb).isSome, .int .i64 (errOf la lb)]) ∧ TV w' x ((andOf la lb).getD []) ∧ Below w.heap.size w w' := by
  have HA : Hid (TV w v la) := ha
  have HB : Hid (TV w u lb) := hb
  clear ha hb
  cases hc : (chk abV 0 la && chk abV 0 lb)
  · have hE : errOf la lb = 90 := if_neg (by simp [hc])
    have HN : Hid (andOf la lb = none) := if_neg (by simp [hc])
    rw [hE]
    go_enter Tryd.func7, Tryd.ntmps7
    go_wp2_with fail
    refine (both_any v u la lb _ HA.out HB.out).mono ?_
    rw [hE]
    rintro e W1 ⟨rfl, hb1⟩
    have HB1 : Hid _ := hb1
    clear hb1 hE hc
    go_wp2_with fail
    go_ret3
    exact ⟨_, by rw [HN.out]; rfl, by rw [HN.out]; exact TV.nil, HB1.out⟩
  · have hE : errOf la lb = 0 := if_pos hc
    have HN : Hid (andOf la lb = jn la lb) := if_pos hc
    have hl : la.length + lb.length ≤ 100 := by
      rw [Bool.and_eq_true] at hc
      have := chk_le hc.1
      have := chk_le hc.2
      omega
    rw [hE]
    go_enter Tryd.func7, Tryd.ntmps7
    go_wp2_with fail
    refine (both_any v u la lb _ HA.out HB.out).mono ?_
    rw [hE]
    rintro e W1 ⟨rfl, hb1⟩
    have HB1 : Hid _ := hb1
    clear hb1 hE hc
    go_wp2_with fail
    refine (join_any v u la lb _ (HA.out.below HB1.out) (HB.out.below HB1.out) hl).mono ?_
    rintro e W2 ⟨x, rfl, hx, hb2⟩
    have HX : Hid (TV W2 x ((jn la lb).getD [])) := hx
    have HB2 : Hid (Below w.heap.size w W2) := HB1.out.trans (hb2.mono HB1.out.size)
    clear hx hb2
    generalize hjj : (jn la lb).isSome = jj
    have HJJ : Hid _ := hjj
    clear hjj
    go_wp2_with fail
    go_ret3
    exact ⟨x, by rw [HN.out, HJJ.out]; rfl, by rw [HN.out]; exact HX.out, HB2.out⟩
set_option maxHeartbeats 400000 in
theorem implies_any (v u : Value) (la lb : List Tm) (w : World) (ha : TV w v la) (hb : TV w u lb) : Calls Tryd.prog 11 #[v, u] w fun e w' => e = .returned (.bool (impOf la lb)) ∧ Below w.heap.size w w' := by
  have HA : Hid (TV w v la) := ha
  have HB : Hid (TV w u lb) := hb
  clear ha hb
  unfold impOf
  cases hc : (chk abV 0 la && chk abV 0 lb)
  · have hE : errOf la lb = 90 := if_neg (by simp [hc])
    go_enter Tryd.func11, Tryd.ntmps11
    go_wp2_with fail
    refine (both_any v u la lb _ HA.out HB.out).mono ?_
    rw [hE]
    rintro e W1 ⟨rfl, hb1⟩
    have HB1 : Hid _ := hb1
    clear hb1 hE hc
    go_wp2_with fail
    go_ret
    exact ⟨rfl, HB1.out⟩
  · have hE : errOf la lb = 0 := if_pos hc
    go_enter Tryd.func11, Tryd.ntmps11
    go_wp2_with fail
    refine (both_any v u la lb _ HA.out HB.out).mono ?_
    rw [hE]
    rintro e W1 ⟨rfl, hb1⟩
    have HB1 : Hid _ := hb1
    clear hb1 hE hc
    go_wp2_with fail
    refine (follows_any v u la lb _ (HA.out.below HB1.out) (HB.out.below HB1.out)).mono ?_
    rintro e W2 ⟨rfl, hb2⟩
    have HB2 : Hid (Below w.heap.size w W2) := HB1.out.trans (hb2.mono HB1.out.size)
    clear hb2
    generalize hq : fol la lb = q
    have HQ : Hid _ := hq
    clear hq
    go_wp2_with fail
    go_ret
    exact ⟨by rw [HQ.out]; rfl, HB2.out⟩
set_option maxHeartbeats 400000 in
theorem meet_any (v u : Value) (la lb : List Tm) (w : World) (ha : TV w v la) (hb : TV w u lb) : Calls Tryd.prog 13 #[v, u] w fun e w' => e = .returned (.bool (andOf la lb).isSome) ∧ Below w.heap.size w w' := by
  have HA : Hid (TV w v la) := ha
  have HB : Hid (TV w u lb) := hb
  clear ha hb
  go_enter Tryd.func13, Tryd.ntmps13
  go_wp2_with fail
  refine (and_any v u la lb _ HA.out HB.out).mono ?_
  rintro e W1 ⟨x, rfl, _, hb1⟩
  have HB1 : Hid _ := hb1
  clear hb1
  generalize hq : (andOf la lb).isSome = q
  generalize errOf la lb = q2
  have HQ : Hid _ := hq
  clear hq
  go_wp2_with fail
  go_ret
  exact ⟨by rw [HQ.out]; rfl, HB1.out⟩
set_option maxHeartbeats 1000000 in
theorem same_yes (va vb : Value) (ts : List Tm) (w : World) (ha : TV w va ts) (hb : TV w vb ts) : Calls Tryd.prog 10 #[va, vb] w fun e w' => e = .returned (.bool true) ∧ Below w.heap.size w w' := by
  obtain ⟨a1, n1, c1, rfl, _, h1⟩ := ha
  obtain ⟨a2, n2, c2, rfl, _, h2⟩ := hb
  have hl := h1.len
  have hr := h1.room
  obtain rfl : n1 = n2 := hl.symm.trans h2.len
  have H1 : Hid _ := h1
  have H2 : Hid _ := h2
  clear h1 h2
  go_enter Tryd.func10, Tryd.ntmps10
  go_wp2_with fail
  go_loopw [5] (fun i wr => ∃ k nq : Nat, k ≤ n1 ∧ i = .int .i64 k ∧ wr = w.drewN nq) (fun i _ => n1 - (intOf i).toNat)
  case atStart => exact ⟨0, 0, by omega, rfl, rfl⟩
  case round =>
    obtain ⟨k, nq, hk, rfl, rfl⟩ := hrel
    by_cases hlt : k < n1
    · have hkI : (k : Int) < (n1 : Int) := by omega
      obtain ⟨t, ht⟩ : ∃ t, ts[k]? = some t := ⟨ts[k]'(by omega), List.getElem?_eq_getElem (by omega)⟩
      obtain ⟨b, off, rfl, p0, p1, p2, hb1⟩ := H1.out.at ht
      obtain ⟨b2, off2, rfl, d0, d1, d2, hb2⟩ := H2.out.at ht
      have hneq : ∀ W, (binOp .neq 55 (.agg #[.int .i64 t.f, .int .u64 (t.v.toNat : Int), .int .u64 (t.m.toNat : Int)]) (.agg #[.int .i64 t.f, .int .u64 (t.v.toNat : Int), .int .u64 (t.m.toNat : Int)])).run Tryd.prog W = .ok (.bool false) W := fun W => by simp [go_sem]
      clear H1 H2 ht
      go_wp2_with fail
      go_quiet (fail)
      go_wp2
      go_roundw
      case rel => exact ⟨k + 1, _, by omega, by go_num, rfl⟩
      case measure => simp [intOf]; omega
    · obtain rfl : k = n1 := by omega
      go_wp2
      go_ret
      exact ⟨rfl, below_drewN (Below.refl _ _) _⟩
end Go.Proofs.YtpinhnkceaephaaDoor
