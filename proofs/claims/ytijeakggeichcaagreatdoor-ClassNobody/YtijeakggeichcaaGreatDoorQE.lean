/- Shapes, marks and values of terms. Conditions: the terms can be read; at most 100 of them. -/
import Derived.Test.YtijeakggeichcaaGreatDoorQC
import Derived.Lib.Hide
namespace Go.Proofs.YtijeakggeichcaaGreatDoor
open Go.RowKit
/-- A term without its value. -/
def z0 (t : Tm) : Tm := ⟨t.f, 0#64, t.m⟩
theorem rowT_set : ∀ (ts : List Tm) (i : Nat) (t : Tm), ts[i]? = some t → (rowT ts).set (i * 3 + 1) (.int .u64 0) = rowT (ts.set i (z0 t))
  | [], _, _, h => by simp at h
  | x :: r, 0, t, h => by
    simp at h; subst h
    simp [rowT, cellsT, z0]
  | x :: r, i + 1, t, h => by
    have ih := rowT_set r i t (by simpa using h)
    rw [rowT_cons, List.set_cons_succ, rowT_cons, ← ih]
    rw [List.set_append_right _ _ (by simp [cellsT]; omega)]
    congr 2
    simp [cellsT]; omega
theorem own_set {w : World} {B g n cap i : Nat} {e : TypeId} {s : Nat} {xs : List Value} (h : w.ownsRow B e s (.slice (some ⟨g, 0, none⟩) n cap) n xs) (v : Value) (_ : i < n * s) : (w.setCell ⟨g, i, none⟩ v).ownsRow B e s (.slice (some ⟨g, 0, none⟩) n cap) n (xs.set i v) := by
  obtain ⟨h1, h2⟩ := h
  refine ⟨by simpa using h1, ?_⟩
  rcases h2 with ⟨e0, _⟩ | ⟨g', cap', cur, e1, e2, e3, e4, e5, e6, e7⟩
  · cases e0
  · cases e1
    refine .inr ⟨g, cap, cur.setIfInBounds i v, rfl, e2, row_setCell e3 i v, e4, e5, by simpa using e6, ?_⟩
    rw [Array.toList_setIfInBounds, ← e7]
    rw [List.take_set]
theorem own_cell {w : World} {B g n cap i : Nat} {e : TypeId} {s : Nat} {xs : List Value} (h : w.ownsRow B e s (.slice (some ⟨g, 0, none⟩) n cap) n xs) (hi : i < n * s) : w.cell? ⟨g, i, none⟩ = xs[i]? ∧ w.frozen? ⟨g, i, none⟩ = false := by
  obtain ⟨h1, h2⟩ := h
  rcases h2 with ⟨e0, _⟩ | ⟨g', cap', cur, e1, e2, e3, e4, e5, e6, e7⟩
  · cases e0
  · cases e1
    refine ⟨?_, frozen_of_row w g i cur e e3⟩
    rw [cell_row e3, ← e7, List.getElem?_take_of_lt hi, Array.getElem?_toList]
theorem own_ge {w : World} {B g n cap : Nat} {e : TypeId} {s : Nat} {xs : List Value} (h : w.ownsRow B e s (.slice (some ⟨g, 0, none⟩) n cap) n xs) : B ≤ g ∧ g < w.heap.size := by
  obtain ⟨h1, h2⟩ := h
  rcases h2 with ⟨e0, _⟩ | ⟨g', cap', cur, e1, e2, e3, e4, e5, e6, e7⟩
  · cases e0
  · cases e1; exact ⟨e2, lt_of_heap e3⟩
/-- Terms, the first k without their values. -/
def zt (ts : List Tm) (k : Nat) : List Tm := (ts.take k).map z0 ++ ts.drop k
theorem zt_len (ts : List Tm) (k : Nat) : (zt ts k).length = ts.length := by simp [zt]; omega
theorem zt_zero (ts : List Tm) : zt ts 0 = ts := by simp [zt]
theorem zt_all (ts : List Tm) : zt ts ts.length = ts.map z0 := by simp [zt]
theorem zt_at {ts : List Tm} {k : Nat} {t : Tm} (h : ts[k]? = some t) : (zt ts k)[k]? = some t := by
  have hl := (List.getElem?_eq_some_iff.1 h).1
  unfold zt
  rw [List.getElem?_append_right (by simp; omega)]
  simp [h, Nat.min_eq_left (Nat.le_of_lt hl)]
theorem zt_succ {ts : List Tm} {k : Nat} {t : Tm} (h : ts[k]? = some t) : (zt ts k).set k (z0 t) = zt ts (k + 1) := by
  have hl := (List.getElem?_eq_some_iff.1 h).1
  have ht := (List.getElem?_eq_some_iff.1 h).2
  unfold zt
  rw [List.set_append_right _ _ (by simp; omega)]
  simp only [List.length_map, List.length_take, Nat.min_eq_left (Nat.le_of_lt hl), Nat.sub_self]
  rw [List.drop_eq_getElem_cons hl, ht, List.set_cons_zero, List.take_succ_eq_append_getElem hl, ht]
  simp
set_option maxRecDepth 20000 in
set_option maxHeartbeats 1000000 in
theorem shapeOf_any (v : Value) (ts : List Tm) (w : World) (h : TV w v ts) (hlen : ts.length ≤ 1000000) : Calls Tryz.prog 36 #[v] w fun e w' => ∃ x, e = .returned x ∧ w'.ownsRow w.heap.size 68 3 x ts.length (rowT (ts.map z0)) ∧ Below w.heap.size w w' := by
  have HC : Hid _ := clone_own v ts w h
  obtain ⟨sa, sn, sc, rfl, _, _⟩ := h
  go_enter Tryz.func36, Tryz.ntmps36
  go_wp2_with fail
  refine Calls.mono HC.out ?_
  rintro e W ⟨x, rfl, ho, hb⟩
  have HO : Hid _ := ho
  have HB : Hid _ := hb
  rcases ho.2 with ⟨rfl, h0⟩ | ⟨g, cap, cur, rfl, h1, h2, h3⟩
  · have hnil : ts = [] := List.length_eq_zero_iff.1 h0
    subst hnil
    clear ho hb h0
    go_wp2_with fail
    refine wp_loop_rounds 1 ?_
    rw [rounds_succ]
    go_wp2
    go_ret
    exact ⟨.slice none 0 0, rfl, ⟨rfl, .inl ⟨rfl, rfl⟩⟩, HB.out⟩
  · clear ho hb h1 h2 h3
    go_wp2_with fail
    go_loopw [9] (fun i wr => ∃ k : Nat, i = .int .i64 k ∧ k ≤ ts.length ∧ Hid (wr.ownsRow w.heap.size 68 3 (.slice (some ⟨g, 0, none⟩) ts.length cap) ts.length (rowT (zt ts k))) ∧ Hid (Below w.heap.size w wr)) (fun i _ => ts.length - (intOf i).toNat)
    case atStart => exact ⟨0, rfl, by omega, by rw [zt_zero]; exact HO.out, HB.out⟩
    case round =>
      obtain ⟨k, rfl, hk, ho, hb⟩ := hrel
      have hk0 : (0 : Int) ≤ k := by omega
      by_cases hlt : k < ts.length
      · have hkI : (k : Int) < ts.length := by omega
        obtain ⟨t, ht⟩ : ∃ t, ts[k]? = some t := ⟨_, List.getElem?_eq_getElem hlt⟩
        obtain ⟨c1, f1⟩ := own_cell ho.out (i := k * 3 + 1) (by omega)
        have q := rowT_at (zt ts k) k t (zt_at ht) 1 (by omega)
        rw [q] at c1
        have c1' : wr.cell? ⟨g, k * 3 + 1, none⟩ = some (.int .u64 (t.v.toNat : Int)) := c1
        have HN : Hid ((wr.setCell ⟨g, k * 3 + 1, none⟩ (.int .u64 0)).ownsRow w.heap.size 68 3 (.slice (some ⟨g, 0, none⟩) ts.length cap) ts.length (rowT (zt ts (k + 1)))) := by
          have := own_set ho.out (.int .u64 0) (i := k * 3 + 1) (by omega)
          rwa [rowT_set _ _ _ (zt_at ht), zt_succ ht] at this
        have BN : Hid (Below w.heap.size w (wr.setCell ⟨g, k * 3 + 1, none⟩ (.int .u64 0))) := hb.out.setCell (own_ge ho.out).1 _
        clear c1 q ht ho hb
        go_wp2
        go_roundw
        case rel => exact ⟨k + 1, rfl, by omega, HN, BN⟩
        case measure => simp [intOf]; omega
      · have hkI : ¬ (k : Int) < ts.length := by omega
        obtain rfl : k = ts.length := by omega
        go_wp2
        go_ret
        exact ⟨_, rfl, by rw [← zt_all]; exact ho.out, hb.out⟩
end Go.Proofs.YtijeakggeichcaaGreatDoor
