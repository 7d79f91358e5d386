/- Count, of both sides. Conditions: the pulse is the call's own. -/
import Derived.Test.YthefgplobhmfcaaPQ
namespace Go.Proofs.Ythefgplobhmfcaa
open Go.RowKit Ieee
/-- One count more: in memory. -/
theorem Pu.put {w w' : World} {base : Nat} {T : TypeId} {b g cap : Nat} {L : List Int} (h : Pu w base T b g cap L) (x : Int) (i : Nat) (h1 : w'.heap[b]? = w.heap[b]?) {cur : Array Value} (hg : w.heap[g]? = some (.cells cur 3 (0, 0))) (h2 : w'.heap[g]? = some (.cells (cur.setIfInBounds i (.int .i64 x)) 3 (0, 0))) : Pu w' base T b g cap (L.set i x) := by
  obtain ⟨h3, cur', h4, h5, h6, h7, h8⟩ := h.heap
  rw [hg] at h4
  cases h4
  have hr : w'.ownsRow base 3 1 (.slice (some ⟨g, 0, none⟩) L.length cap) L.length ((L.set i x).map (Value.int .i64)) := by
    refine ⟨by simp, .inr ⟨g, cap, _, rfl, h3, h2, h5, h6, by simpa using h7, ?_⟩⟩
    rw [Nat.mul_one, Array.toList_setIfInBounds, List.take_set, h8, List.map_set]
  refine ⟨?_, by simpa using hr, h.lo, h.ne⟩
  rw [h1, h.blk, List.length_set]
theorem last_cell {w : World} {base : Nat} {T : TypeId} {b g cap : Nat} {L : List Int} (h : Pu w base T b g cap L) {k : Nat} (hk : L.length = k + 1) : w.cell? ⟨g, k, none⟩ = some (.int .i64 (L.getD k 0)) := by
  obtain ⟨x, hx⟩ := getK (os := L) (k := k) (by omega)
  obtain ⟨b', off, e, c0, _⟩ := h.pr.is.at hx
  cases e
  rw [Nat.zero_add] at c0
  rw [c0, List.getD_eq_getElem?_getD, hx]; rfl
/-- What a call of Count or Tick gives. -/
def ChgPost (w : World) (base : Nat) (T : TypeId) (b g : Nat) (r : Int) (L' : List Int) (e : Ending) (w' : World) : Prop :=
  e = .returned (.int .i64 r) ∧ Mod w w' base b g ∧ ∃ g' cap', Pu w' base T b g' cap' L' ∧ (g' = g ∨ w.heap.size ≤ g')
theorem below_setCell {w : World} {base g o : Nat} {v : Value} (h : base ≤ g) : Below base w (w.setCell ⟨g, o, none⟩ v) := (Below.refl base w).setCell h v
set_option maxHeartbeats 1000000 in
theorem count_any (base b g cap : Nat) (L : List Int) (n : Int) (w : World) (h : Pu w base 55 b g cap L) (hL : Cnt L) :
    Calls Try.prog 11 #[.pointer (some ⟨b, 0, none⟩), .int .i64 n] w fun e w' => ChgPost w base 55 b g (cntE L n) (cntL L n) e w' := by
  obtain ⟨k, hk⟩ : ∃ k, L.length = k + 1 := ⟨L.length - 1, by have := hL.one; omega⟩
  have hfew := hL.few
  have hlast := last_cell h hk
  have hlb := hL.get k
  have hc := h.pr.cell
  rw [hk] at hc
  obtain ⟨hbg, cur, hg, hle, hmx, hcs, htk⟩ := h.heap
  have hfz := frozen_of_row w g k cur 3 hg
  have HG : Hid _ := hg
  have HPR : Hid _ := h.pr
  rw [hk] at HPR
  have H : Hid _ := h
  have E1 : Hid (cntE L n = if n < 0 then 1 else if 1048576 - L.getD k 0 < n then 2 else 0) := by show _ = _; unfold cntE; rw [hk]; rfl
  have E2 : Hid (cntL L n = if n < 0 then L else if 1048576 - L.getD k 0 < n then L else L.set k (L.getD k 0 + n)) := by show _ = _; unfold cntL; rw [hk]; rfl
  clear h hL htk hcs hmx hg
  generalize L.getD k 0 = x at *
  have hkc : k + 1 ≤ cap := by omega
  have h0I : decide (0 < k + 1) = true := by simp
  have hkI : (k : Int) < (k + 1 : Nat) := by omega
  have hw1 : IntKind.i64.wrap (((k + 1 : Nat) : Int) - 1) = k := by simp [IntKind.wrap, IntKind.bits, IntKind.signed]; omega
  clear hle
  go_enter Try.func11, Try.ntmps11
  go_wp2_with fail
  refine (isMade_any _ _ _ _ L _ HPR.out).mono ?_
  rintro e W ⟨rfl, rfl⟩
  rw [h0I]
  rcases (by omega : n < 0 ∨ 0 ≤ n) with hn | hn
  · go_wp2
    go_ret
    exact ⟨by rw [E1.out, if_pos hn]; rfl, Mod.refl _ _ _ _, g, cap, by rw [E2.out, if_pos hn]; exact H.out, .inl rfl⟩
  · go_wp2_with fail
    go_quiet (fail)
    rcases (by omega : 1048576 - x < n ∨ n ≤ 1048576 - x) with hx | hx
    · go_wp2
      go_ret
      exact ⟨by rw [E1.out, if_neg (by omega), if_pos hx]; rfl, ⟨below_drewN (Below.refl _ _) _, Nat.le_refl _, fun _ _ _ _ => rfl⟩, g, cap, by rw [E2.out, if_neg (by omega), if_pos hx]; exact H.out.below (below_drewN (Below.refl _ _) _), .inl rfl⟩
    · have hw2 : IntKind.i64.wrap (x + n) = x + n := by simp [IntKind.wrap, IntKind.bits, IntKind.signed]; omega
      go_wp2
      go_ret
      exact ⟨by rw [E1.out, if_neg (by omega), if_neg (by omega)]; rfl, ⟨(below_drewN (Below.refl base W) _).setCell hbg _, by simp [World.setCell], fun j _ _ h2 => Below.heap_setCell _ _ _ _ h2⟩, g, cap, by rw [E2.out, if_neg (by omega), if_neg (by omega)]; exact H.out.put (x + n) k (Below.heap_setCell _ _ _ _ H.out.ne) HG.out (row_setCell HG.out k _), .inl rfl⟩
set_option maxHeartbeats 1000000 in
theorem rcount_any (base b g cap : Nat) (L : List Int) (n : Int) (w : World) (h : Pu w base 28 b g cap L) (hL : Cnt L) :
    Calls Try.prog 12 #[.pointer (some ⟨b, 0, none⟩), .int .i64 n] w fun e w' => ChgPost w base 28 b g (cntE L n) (cntL L n) e w' := by
  obtain ⟨k, hk⟩ : ∃ k, L.length = k + 1 := ⟨L.length - 1, by have := hL.one; omega⟩
  have hfew := hL.few
  have hlast := last_cell h hk
  have hlb := hL.get k
  have hc := h.pr.cell
  rw [hk] at hc
  obtain ⟨hbg, cur, hg, hle, hmx, hcs, htk⟩ := h.heap
  have hfz := frozen_of_row w g k cur 3 hg
  have HG : Hid _ := hg
  have HPR : Hid _ := h.pr
  rw [hk] at HPR
  have H : Hid _ := h
  have E1 : Hid (cntE L n = if n < 0 then 1 else if 1048576 - L.getD k 0 < n then 2 else 0) := by show _ = _; unfold cntE; rw [hk]; rfl
  have E2 : Hid (cntL L n = if n < 0 then L else if 1048576 - L.getD k 0 < n then L else L.set k (L.getD k 0 + n)) := by show _ = _; unfold cntL; rw [hk]; rfl
  clear h hL htk hcs hmx hg
  generalize L.getD k 0 = x at *
  have hkc : k + 1 ≤ cap := by omega
  have h0I : decide (0 < k + 1) = true := by simp
  have hkI : (k : Int) < (k + 1 : Nat) := by omega
  have hw1 : IntKind.i64.wrap (((k + 1 : Nat) : Int) - 1) = k := by simp [IntKind.wrap, IntKind.bits, IntKind.signed]; omega
  clear hle
  go_enter Try.func12, Try.ntmps12
  rcases (by omega : n < 0 ∨ 0 ≤ n) with hn | hn
  · go_wp2
    go_ret
    exact ⟨by rw [E1.out, if_pos hn]; rfl, Mod.refl _ _ _ _, g, cap, by rw [E2.out, if_pos hn]; exact H.out, .inl rfl⟩
  · rcases (by omega : 1048576 - x < n ∨ n ≤ 1048576 - x) with hx | hx
    · go_wp2
      go_ret
      exact ⟨by rw [E1.out, if_neg (by omega), if_pos hx]; rfl, Mod.refl _ _ _ _, g, cap, by rw [E2.out, if_neg (by omega), if_pos hx]; exact H.out, .inl rfl⟩
    · have hw2 : IntKind.i64.wrap (x + n) = x + n := by simp [IntKind.wrap, IntKind.bits, IntKind.signed]; omega
      have hk1 : k < k + 1 := by omega
      go_wp2_with fail
      go_region
      go_wp2
      go_ret
      exact ⟨by rw [E1.out, if_neg (by omega), if_neg (by omega)]; rfl, ⟨(below_drewN (Below.refl base w) _).setCell hbg _, by simp [World.setCell], fun j _ _ h2 => Below.heap_setCell _ _ _ _ h2⟩, g, cap, by rw [E2.out, if_neg (by omega), if_neg (by omega)]; exact H.out.put (x + n) k (Below.heap_setCell _ _ _ _ H.out.ne) HG.out (row_setCell HG.out k _), .inl rfl⟩
end Go.Proofs.Ythefgplobhmfcaa
