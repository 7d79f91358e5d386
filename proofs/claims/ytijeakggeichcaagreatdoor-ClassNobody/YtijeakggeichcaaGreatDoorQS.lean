/- A tuple of one rule, seen from later worlds; Find of the laws' lives. Conditions: as said. -/
import Derived.Test.YtijeakggeichcaaGreatDoorQR
import Derived.Lib.Hide
namespace Go.Proofs.YtijeakggeichcaaGreatDoor
open Go.RowKit
def Frm (w w' : World) (rb tm : Nat) : Prop := ∀ g, g < w.heap.size → g ≠ rb → g ≠ tm → w'.heap[g]? = w.heap[g]?
theorem frm_cells {w w' : World} {rb tm g cr ct : Nat} {er et : Array MapEntry} {A : Array Value} {t : TypeId} {r : Nat × Nat} (hr : w.heap[rb]? = some (.map er cr)) (hm : w.heap[tm]? = some (.map et ct)) (ho : Frm w w' rb tm) (h : w.heap[g]? = some (.cells A t r)) : w'.heap[g]? = some (.cells A t r) :=
  (ho g (lt_of_heap h) (fun e => by subst e; rw [hr] at h; cases h) (fun e => by subst e; rw [hm] at h; cases h)).trans h
theorem TV.frm2 {w w' : World} {rb tm cr ct : Nat} {er et : Array MapEntry} (hr : w.heap[rb]? = some (.map er cr)) (hm : w.heap[tm]? = some (.map et ct)) (ho : Frm w w' rb tm) {v : Value} {ts : List Tm} (h : TV w v ts) : TV w' v ts := by
  obtain ⟨a, n, c, rfl, hc, ht⟩ := h
  refine ⟨a, n, c, rfl, hc, ht.len, ht.room, ?_⟩
  rcases ht.cells with h0 | ⟨b, off, e, hcell⟩
  · exact .inl h0
  · refine .inr ⟨b, off, e, fun i t hi => ?_⟩
    have c0 := hcell i t hi
    have h1 : b ≠ rb := fun e => by
      subst e
      have := c0.1
      unfold World.cell? at this
      rw [hr] at this
      cases this
    have h2 : b ≠ tm := fun e => by
      subst e
      have := c0.1
      unfold World.cell? at this
      rw [hm] at this
      cases this
    have key : ∀ j, w'.cell? ⟨b, j, none⟩ = w.cell? ⟨b, j, none⟩ := fun j => World.cell?_of_block (ho b (cell_lt c0.1) h1 h2)
    exact ⟨by rw [key]; exact c0.1, by rw [key]; exact c0.2.1, by rw [key]; exact c0.2.2⟩
theorem alone_tup {w W : World} {B eb tb qm qb rb tm cr ct : Nat} {er et : Array MapEntry} {p id : Int} {tx : ByteArray} {ts : List Tm} {s' sh : Value} {mk : Int} {qa : Option Addr} {qc : Nat} (h : Alone1 w B eb tb qm qb p id tx ts s' sh mk qa qc)
    (hr : w.heap[rb]? = some (.map er cr)) (hm : w.heap[tm]? = some (.map et ct)) (ho : Frm w W rb tm) (hqr : qm ≠ rb) (hqm : qm ≠ tm) (hl : ts.length ≤ 28) (hfd : ∀ t ∈ ts, 1 ≤ t.f ∧ t.f ≤ 28) (b : Nat) :
    TupOk W (tx, .pointer (some ⟨tb, 0, none⟩), b) (ts.map z0) [(keyS ts, .pointer (some ⟨qb, 0, none⟩), 0)] ∧ EntAt W eb p id ts ∧ FirstQ W (.pointer (some ⟨qb, 0, none⟩)) eb := by
  have H1 : EntAt W eb p id ts := ⟨s', tb, 0, frm_cells hr hm ho h.e, TV.frm2 hr hm ho (own_tv h.s (by omega))⟩
  have H2 : FirstQ W (.pointer (some ⟨qb, 0, none⟩)) eb := by
    rcases h.o.2 with ⟨_, h0⟩ | ⟨g, cap, cur, hv, _, hg, _, _, _, htk⟩
    · omega
    · injection hv with hv _ _
      refine ⟨qb, g, 1, qc, cur, rfl, ?_, Nat.le_refl _, by omega, frm_cells hr hm ho hg, ?_⟩
      · rw [← hv]; exact frm_cells hr hm ho h.b
      · have : (cur.toList.take (1 * 1))[0]? = some (.pointer (some ⟨eb, 0, none⟩)) := by rw [htk]; rfl
        rw [List.getElem?_take, if_pos (by omega)] at this
        simpa using this
  refine ⟨⟨tb, sh, mk, qm, 1, rfl, frm_cells hr hm ho h.t, TV.frm2 hr hm ho (own_tv (by rw [List.length_map]; exact h.z) (by rw [List.length_map]; omega)), by rw [List.length_map]; exact hl, fun t ht => ?_, (ho _ (lt_of_heap h.q) hqr hqm).trans h.q, fun y hy => ?_⟩, H1, H2⟩
  · obtain ⟨u, hu, rfl⟩ := List.mem_map.1 ht
    exact hfd u hu
  · rw [List.mem_singleton] at hy
    subst hy
    exact ⟨eb, H2, p, id, ts, H1⟩
def shT (x : ByteArray × Value × Nat) : List Tm := if x.2.2 = 0 then [tD] else []
def lqT (v1 v2 : Value) (x : ByteArray × Value × Nat) : List (ByteArray × Value × Nat) := if x.2.2 = 0 then [(keyS [tR], v1, 0)] else [(keyS [], v2, 0)]
theorem find_lives {W : World} {B cb rb tm cr e1 e2 : Nat} {lr : List (Int × Value × Nat)} {v1 v2 q1 q2 : Value} (hc : Cl W B cb rb tm cr 2 lr [(txD, v1, 0), (⟨#[]⟩, v2, 1)])
    (T1 : TupOk W (txD, v1, 0) [tD] [(keyS [tR], q1, 0)]) (T2 : TupOk W (⟨#[]⟩, v2, 1) [] [(keyS [], q2, 0)]) (E1 : EntAt W e1 10 1 [tR]) (E2 : EntAt W e2 10 2 []) (F1 : FirstQ W q1 e1) (F2 : FirstQ W q2 e2) (one : Bool) :
    Calls Tryz.prog 10 #[.pointer (some ⟨cb, 0, none⟩), .agg (if one then oneC else zeroC)] W fun e w' => (∃ p a n c, e = .returned (.tuple #[.agg (ruC p (.slice a n c) (if one then 1 else 2)), .bool true])) ∧ Below W.heap.size W w' := by
  have hst : St (if one then oneC else zeroC) := by cases one; exact zeroSt; exact oneSt
  refine Calls.mono (find_any hc (if one then oneC else zeroC) hst shT (lqT q1 q2) ?_ ?_ ?_) ?_
  · intro x hx
    simp only [List.mem_cons, List.not_mem_nil, or_false] at hx
    rcases hx with rfl | rfl
    · exact T1
    · exact T2
  · intro x hx
    simp only [List.mem_cons, List.not_mem_nil, or_false] at hx
    rcases hx with rfl | rfl
    · show 0 < 2; omega
    · show 1 < 2; omega
  · simp
  rintro e w' ⟨⟨seen, r, hall, hbest, hfa⟩, hb⟩
  refine ⟨?_, hb⟩
  have K2 : FirstR W (if one then oneC else zeroC) [] [(keyS [], q2, 0)] (some ⟨e2, 0, none⟩) := .inr ⟨[], rfl, .inr ⟨0, q2, e2, by simp [findG, keyS, keyZ], F2, rfl⟩⟩
  have m2 : ((⟨#[]⟩, v2, 1) : ByteArray × Value × Nat) ∈ ([(txD, v1, 0), (⟨#[]⟩, v2, 1)] : List (ByteArray × Value × Nat)) := by simp
  have m1 : ((txD, v1, 0) : ByteArray × Value × Nat) ∈ ([(txD, v1, 0), (⟨#[]⟩, v2, 1)] : List (ByteArray × Value × Nat)) := by simp
  have hah : Ahead W e1 e2 := ⟨10, 1, [tR], 10, 2, [], E1, E2, by rw [ordI_neg]; omega⟩
  have hr : r = some (if one then e1 else e2) := by
    cases one with
    | true =>
      have K1 : FirstR W oneC [tD] [(keyS [tR], q1, 0)] (some ⟨e1, 0, none⟩) := .inr ⟨keyZ [tR], tell_one, .inr ⟨0, q1, e1, by simp [findG, keyS], F1, rfl⟩⟩
      obtain ⟨e0, rfl, hna⟩ := hbest.1 _ m1 (hall _ m1) e1 K1
      obtain ⟨x, hx, _, hf⟩ := hbest.2 e0 rfl
      simp only [List.mem_cons, List.not_mem_nil, or_false] at hx
      rcases hx with rfl | rfl
      · have := FirstR.one hf K1
        injection this with this
        injection this with this
        rw [this]; rfl
      · have := FirstR.one hf K2
        injection this with this
        injection this with this
        rw [this] at hna
        exact absurd hah hna
    | false =>
      have K1 : FirstR W zeroC [tD] [(keyS [tR], q1, 0)] none := .inl ⟨tell_zero, rfl⟩
      obtain ⟨e0, rfl, hna⟩ := hbest.1 _ m2 (hall _ m2) e2 K2
      obtain ⟨x, hx, _, hf⟩ := hbest.2 e0 rfl
      simp only [List.mem_cons, List.not_mem_nil, or_false] at hx
      rcases hx with rfl | rfl
      · have := FirstR.one hf K1
        cases this
      · have := FirstR.one hf K2
        injection this with this
        injection this with this
        rw [this]; rfl
  subst hr
  obtain ⟨p, id, ts, y, hent, rfl, a, n, c, rfl, _⟩ := hfa
  refine ⟨p, a, n, c, ?_⟩
  have : id = if one then 1 else 2 := by
    cases one with
    | true => exact (EntAt.one hent E1).2
    | false => exact (EntAt.one hent E2).2
  rw [this]
end Go.Proofs.YtijeakggeichcaaGreatDoor
