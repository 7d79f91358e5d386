/- All, Len, Tuples; the States that the laws' lives asks. Conditions: as said. -/
import Derived.Test.YtnahhmcmahbnkaaGreatDoorGQPtoQQ
import Derived.Test.YtnahhmcmahbnkaaGreatDoorGFZtoAF
import Derived.Lib.Hide
import Derived.BigQuiet
namespace Go.Proofs.YtnahhmcmahbnkaaGreatDoor
open Go.RowKit
theorem len_tup {W : World} {r c : Nat} {l : List (ByteArray × Value × Nat)} (h : W.heap[r]? = some (.map (entG sv l).toArray c)) : (Builtin.len_ #[143] 3 #[.map (some r)]).run Tryz.prog W = .ok (.int .i64 l.length) W := by
  simp [Builtin.len_, run_underlying Tryz.underlying143, MapKept.run_getObj_map h, entG, goInt]
set_option maxHeartbeats 1000000 in
theorem len_yes {w : World} {B cb rb tm cr ct : Nat} {lr : List (Int × Value × Nat)} {lt : List (ByteArray × Value × Nat)} (h : Cl w B cb rb tm cr ct lr lt) : Calls Tryz.prog 307 #[.pointer (some ⟨cb, 0, none⟩)] w fun e w' => e = .returned (.int .i64 lr.length) ∧ w' = w := by
  have HM : Hid _ := isMade_yes h.c
  have c0 : w.cell? ⟨cb, 0, none⟩ = some (.map (some rb)) := cell_row h.c 0
  have hln := len_map h.r
  clear h
  go_enter Tryz.func307, Tryz.ntmps307
  go_wp2_with fail
  refine Calls.mono HM.out ?_
  rintro e W1 ⟨rfl, hw⟩
  rw [hw]
  clear hw HM
  go_wp2
  go_ret
  exact ⟨rfl, rfl⟩
/-- The State of an IPv4 packet to 0.0.0.1. -/
def oneC : Array Value := (zeroC.setIfInBounds 11 (.bool true)).setIfInBounds 18 (.int .u32 1)
theorem oneSt : St oneC := by
  refine st_put (st_put zeroSt 11 (.bool true) (by decide) rfl (fun hx => absurd hx (by decide)) (fun hx => absurd hx (by decide)) (fun hx => absurd hx (by decide)) (fun _ => ⟨true, rfl⟩) (fun hx => absurd hx (by decide))) 18 (.int .u32 1) (by decide) rfl (fun hx => absurd hx (by decide)) (fun hx => absurd hx (by decide)) (fun _ => ⟨1, rfl, by omega, by omega⟩) (fun hx => absurd hx (by decide)) (fun hx => absurd hx (by decide))
theorem built_ip : Tryz.prog.built 29 [(6, .int .u32 1)] = some (oneC.extract 12 20) := by kernel_rfl
theorem built_pk : Tryz.prog.built 33 [(3, .bool true), (4, .agg (oneC.extract 12 20))] = some (oneC.extract 0 36) := by kernel_rfl
theorem built_st : Tryz.prog.built 38 [(0, .agg (oneC.extract 0 36))] = some oneC := by kernel_rfl
theorem built_st0 : Tryz.prog.built 38 [] = some zeroC := by kernel_rfl
theorem built_ru0 : Tryz.prog.built 106 [(0, .int .i64 10), (2, .int .i64 2)] = some (ruC 10 (.slice none 0 0) 2) := by kernel_rfl
/-- The laws' own rule's terms. -/
def tR : Tm := ⟨11, 1#64, 4294967295#64⟩
theorem chk_R : chkR 10 1 [tR] false 0 = 0 := by
  have h : chk abV 0 [tR] = true := by decide +kernel
  unfold chkR chkE
  rw [h]
  rfl
theorem chk_0 : chkR 10 2 [] false 1 = 0 := by
  have h : chk abV 0 [] = true := by decide +kernel
  unfold chkR chkE
  rw [h]
  rfl
theorem z0_R : [tR].map z0 = [tD] := rfl
theorem tell_one : tellK oneC [tD] = some (keyZ [tR]) := by
  have h1 : hasF 11 oneC = true := by kernel_rfl
  have h2 : gv 11 oneC = 1 := by kernel_rfl
  have h3 : bits BinOp.and IntKind.u64 1 4294967295 = 1 := by decide +kernel
  show (if hasF 11 oneC then _ else _) = _
  rw [if_pos h1]
  show some (Nm.be (bits BinOp.and IntKind.u64 (gv 11 oneC) 4294967295) 8 ++ []) = _
  rw [h2, h3]
  rfl
theorem tell_zero : tellK zeroC [tD] = none := by
  have h1 : hasF 11 zeroC = false := by kernel_rfl
  show (if hasF 11 zeroC then _ else _) = _
  rw [h1]
  rfl
def txD : ByteArray := ⟨#[105, 112, 52, 46, 100, 115, 116, 32, 61, 61, 32, 48, 120, 48]⟩
theorem tx_ne : (⟨#[]⟩ : ByteArray) ≠ txD := by decide
end Go.Proofs.YtnahhmcmahbnkaaGreatDoor
/- A tuple of one rule, seen from later worlds; Find of the laws' lives. Conditions: as said. -/
namespace Go.Proofs.YtnahhmcmahbnkaaGreatDoor
open Go.RowKit
def Frm (w w' : World) (rb tm : Nat) : Prop := ∀ g, g < w.heap.size → g ≠ rb → g ≠ tm → w'.heap[g]? = w.heap[g]?
theorem frm_cells {w w' : World} {rb tm g cr ct : Nat} {er et : Array MapEntry} {A : Array Value} {t : TypeId} {r : Nat × Nat} (hr : w.heap[rb]? = some (.map er cr)) (hm : w.heap[tm]? = some (.map et ct)) (ho : Frm w w' rb tm) (h : w.heap[g]? = some (.cells A t r)) : w'.heap[g]? = some (.cells A t r) :=
  (ho g (lt_of_heap h) (fun e => by subst e; rw [hr] at h; cases h) (fun e => by subst e; rw [hm] at h; cases h)).trans h
theorem TV.frm2 {w w' : World} {rb tm cr ct : Nat} {er et : Array MapEntry} (hr : w.heap[rb]? = some (.map er cr)) (hm : w.heap[tm]? = some (.map et ct)) (ho : Frm w w' rb tm) {v : Value} {ts : List Tm} (h : TV w v ts) : TV w' v ts := by
  obtain ⟨a, n, c, rfl, hc, ht⟩ := h
  refine ⟨a, n, c, rfl, hc, ht.len, ht.room, ?_⟩
  rcases ht.cells with h0 | ⟨b, off, e, hcell⟩
  · exact .inl h0
  · refine .inr ⟨b, off, e, fun i t hi => ?_⟩
    have c0 := hcell i t hi
    have h1 : b ≠ rb := fun e => by
      subst e
      have := c0.1
      unfold World.cell? at this
      rw [hr] at this
      cases this
    have h2 : b ≠ tm := fun e => by
      subst e
      have := c0.1
      unfold World.cell? at this
      rw [hm] at this
      cases this
    have key : ∀ j, w'.cell? ⟨b, j, none⟩ = w.cell? ⟨b, j, none⟩ := fun j => World.cell?_of_block (ho b (cell_lt c0.1) h1 h2)
    exact ⟨by rw [key]; exact c0.1, by rw [key]; exact c0.2.1, by rw [key]; exact c0.2.2⟩
theorem alone_tup {w W : World} {B eb tb qm qb rb tm cr ct : Nat} {er et : Array MapEntry} {p id : Int} {tx : ByteArray} {ts : List Tm} {s' sh : Value} {mk : Int} {qa : Option Addr} {qc : Nat} (h : Alone1 w B eb tb qm qb p id tx ts s' sh mk qa qc)
    (hr : w.heap[rb]? = some (.map er cr)) (hm : w.heap[tm]? = some (.map et ct)) (ho : Frm w W rb tm) (hqr : qm ≠ rb) (hqm : qm ≠ tm) (hl : ts.length ≤ 28) (hfd : ∀ t ∈ ts, 1 ≤ t.f ∧ t.f ≤ 28) (b : Nat) :
    TupOk W (tx, .pointer (some ⟨tb, 0, none⟩), b) (ts.map z0) [(keyS ts, .pointer (some ⟨qb, 0, none⟩), 0)] ∧ EntAt W eb p id ts ∧ FirstQ W (.pointer (some ⟨qb, 0, none⟩)) eb := by
  have H1 : EntAt W eb p id ts := ⟨s', tb, 0, frm_cells hr hm ho h.e, TV.frm2 hr hm ho (own_tv h.s (by omega))⟩
  have H2 : FirstQ W (.pointer (some ⟨qb, 0, none⟩)) eb := by
    rcases h.o.2 with ⟨_, h0⟩ | ⟨g, cap, cur, hv, _, hg, _, _, _, htk⟩
    · omega
    · injection hv with hv _ _
      refine ⟨qb, g, 1, qc, cur, rfl, ?_, Nat.le_refl _, by omega, frm_cells hr hm ho hg, ?_⟩
      · rw [← hv]; exact frm_cells hr hm ho h.b
      · have : (cur.toList.take (1 * 1))[0]? = some (.pointer (some ⟨eb, 0, none⟩)) := by rw [htk]; rfl
        rw [List.getElem?_take, if_pos (by omega)] at this
        simpa using this
  refine ⟨⟨tb, sh, mk, qm, 1, rfl, frm_cells hr hm ho h.t, TV.frm2 hr hm ho (own_tv (by rw [List.length_map]; exact h.z) (by rw [List.length_map]; omega)), by rw [List.length_map]; exact hl, fun t ht => ?_, (ho _ (lt_of_heap h.q) hqr hqm).trans h.q, fun y hy => ?_⟩, H1, H2⟩
  · obtain ⟨u, hu, rfl⟩ := List.mem_map.1 ht
    exact hfd u hu
  · rw [List.mem_singleton] at hy
    subst hy
    exact ⟨eb, H2, p, id, ts, H1⟩
def shT (x : ByteArray × Value × Nat) : List Tm := if x.2.2 = 0 then [tD] else []
def lqT (v1 v2 : Value) (x : ByteArray × Value × Nat) : List (ByteArray × Value × Nat) := if x.2.2 = 0 then [(keyS [tR], v1, 0)] else [(keyS [], v2, 0)]
theorem find_lives {W : World} {B cb rb tm cr e1 e2 : Nat} {lr : List (Int × Value × Nat)} {v1 v2 q1 q2 : Value} (hc : Cl W B cb rb tm cr 2 lr [(txD, v1, 0), (⟨#[]⟩, v2, 1)])
    (T1 : TupOk W (txD, v1, 0) [tD] [(keyS [tR], q1, 0)]) (T2 : TupOk W (⟨#[]⟩, v2, 1) [] [(keyS [], q2, 0)]) (E1 : EntAt W e1 10 1 [tR]) (E2 : EntAt W e2 10 2 []) (F1 : FirstQ W q1 e1) (F2 : FirstQ W q2 e2) (one : Bool) :
    Calls Tryz.prog 36 #[.pointer (some ⟨cb, 0, none⟩), .agg (if one then oneC else zeroC)] W fun e w' => (∃ p a n c, e = .returned (.tuple #[.agg (ruC p (.slice a n c) (if one then 1 else 2)), .bool true])) ∧ Below W.heap.size W w' := by
  have hst : St (if one then oneC else zeroC) := by cases one; exact zeroSt; exact oneSt
  refine Calls.mono (find_any hc (if one then oneC else zeroC) hst shT (lqT q1 q2) ?_ ?_ ?_) ?_
  · intro x hx
    simp only [List.mem_cons, List.not_mem_nil, or_false] at hx
    rcases hx with rfl | rfl
    · exact T1
    · exact T2
  · intro x hx
    simp only [List.mem_cons, List.not_mem_nil, or_false] at hx
    rcases hx with rfl | rfl
    · show 0 < 2; omega
    · show 1 < 2; omega
  · simp
  rintro e w' ⟨⟨seen, r, hall, hbest, hfa⟩, hb⟩
  refine ⟨?_, hb⟩
  have K2 : FirstR W (if one then oneC else zeroC) [] [(keyS [], q2, 0)] (some ⟨e2, 0, none⟩) := .inr ⟨[], rfl, .inr ⟨0, q2, e2, by simp [findG, keyS, keyZ], F2, rfl⟩⟩
  have m2 : ((⟨#[]⟩, v2, 1) : ByteArray × Value × Nat) ∈ ([(txD, v1, 0), (⟨#[]⟩, v2, 1)] : List (ByteArray × Value × Nat)) := by simp
  have m1 : ((txD, v1, 0) : ByteArray × Value × Nat) ∈ ([(txD, v1, 0), (⟨#[]⟩, v2, 1)] : List (ByteArray × Value × Nat)) := by simp
  have hah : Ahead W e1 e2 := ⟨10, 1, [tR], 10, 2, [], E1, E2, by rw [ordI_neg]; omega⟩
  have hr : r = some (if one then e1 else e2) := by
    cases one with
    | true =>
      have K1 : FirstR W oneC [tD] [(keyS [tR], q1, 0)] (some ⟨e1, 0, none⟩) := .inr ⟨keyZ [tR], tell_one, .inr ⟨0, q1, e1, by simp [findG, keyS], F1, rfl⟩⟩
      obtain ⟨e0, rfl, hna⟩ := hbest.1 _ m1 (hall _ m1) e1 K1
      obtain ⟨x, hx, _, hf⟩ := hbest.2 e0 rfl
      simp only [List.mem_cons, List.not_mem_nil, or_false] at hx
      rcases hx with rfl | rfl
      · have := FirstR.one hf K1
        injection this with this
        injection this with this
        rw [this]; rfl
      · have := FirstR.one hf K2
        injection this with this
        injection this with this
        rw [this] at hna
        exact absurd hah hna
    | false =>
      have K1 : FirstR W zeroC [tD] [(keyS [tR], q1, 0)] none := .inl ⟨tell_zero, rfl⟩
      obtain ⟨e0, rfl, hna⟩ := hbest.1 _ m2 (hall _ m2) e2 K2
      obtain ⟨x, hx, _, hf⟩ := hbest.2 e0 rfl
      simp only [List.mem_cons, List.not_mem_nil, or_false] at hx
      rcases hx with rfl | rfl
      · have := FirstR.one hf K1
        cases this
      · have := FirstR.one hf K2
        injection this with this
        injection this with this
        rw [this]; rfl
  subst hr
  obtain ⟨p, id, ts, y, hent, rfl, a, n, c, rfl, _⟩ := hfa
  refine ⟨p, a, n, c, ?_⟩
  have : id = if one then 1 else 2 := by
    cases one with
    | true => exact (EntAt.one hent E1).2
    | false => exact (EntAt.one hent E2).2
  rw [this]
end Go.Proofs.YtnahhmcmahbnkaaGreatDoor
/- A nil Program; a table of connections; small functions of package dpath. Conditions: as said. -/
namespace Go.Proofs.YtnahhmcmahbnkaaGreatDoor
open Go.RowKit
set_option maxHeartbeats 400000 in
theorem newTable_any (room clock : Int) (w : World) : Calls Tryz.prog 17 #[.int .i64 room, .int .i64 clock] w fun e w' => e = .returned (.pointer (some ⟨w.heap.size + 1, 0, none⟩)) ∧ Below w.heap.size w w' := by
  have hmm := @run_makeMap Tryz.prog
  go_enter Tryz.func17, Tryz.ntmps17
  go_wp2
  go_ret
  exact ⟨rfl, below2 _ _ _⟩
set_option maxHeartbeats 400000 in
theorem ctnew_any (room : Int) (h1 : 1 ≤ room) (h2 : room ≤ 65536) (w : World) : Calls Tryz.prog 8 #[.int .i64 room] w fun e w' => e = .returned (.tuple #[.pointer (some ⟨w.heap.size + 1, 0, none⟩), .int .i64 0]) ∧ Below w.heap.size w w' := by
  go_enter Tryz.func8, Tryz.ntmps8
  go_wp2_with fail
  refine (newTable_any room 0 _).mono ?_
  rintro e W1 ⟨rfl, hb⟩
  have HB : Hid _ := hb
  clear hb
  go_wp2
  go_ret2
  exact ⟨rfl, HB.out⟩
theorem neq_pprog (a : Addr) (W : World) : (binOp .neq 40 (.pointer (some a)) (.pointer none)).run Tryz.prog W = .ok (.bool true) W := by
  first | kernel_rfl | simp [binOp, go_sem]
theorem neq_pprog0 (W : World) : (binOp .neq 40 (.pointer none) (.pointer none)).run Tryz.prog W = .ok (.bool false) W := by
  first | kernel_rfl | simp [binOp, go_sem]
theorem eql_pprog (a : Addr) (W : World) : (binOp .eql 40 (.pointer (some a)) (.pointer none)).run Tryz.prog W = .ok (.bool false) W := by
  first | kernel_rfl | simp [binOp, go_sem]
theorem eql_pcttab (a : Addr) (W : World) : (binOp .eql 54 (.pointer (some a)) (.pointer none)).run Tryz.prog W = .ok (.bool false) W := by
  first | kernel_rfl | simp [binOp, go_sem]
theorem eql_pcttab0 (W : World) : (binOp .eql 54 (.pointer none) (.pointer none)).run Tryz.prog W = .ok (.bool true) W := by
  first | kernel_rfl | simp [binOp, go_sem]
theorem neq_rowsmap (r : Nat) (W : World) : (binOp .neq 68 (.map (some r)) (.map none)).run Tryz.prog W = .ok (.bool true) W := by
  first | kernel_rfl | simp [binOp, go_sem]
theorem pmade_no (w : World) : Calls Tryz.prog 18 #[.pointer none] w fun e w' => e = .returned (.bool false) ∧ w' = w := by
  have h1 := neq_pprog0
  go_enter Tryz.func18, Tryz.ntmps18
  go_wp2
  go_ret
  exact ⟨rfl, rfl⟩
theorem pmade_yes {p m : Nat} (w : World) (h : w.cell? ⟨p, 0, none⟩ = some (.map (some m))) : Calls Tryz.prog 18 #[.pointer (some ⟨p, 0, none⟩)] w fun e w' => e = .returned (.bool true) ∧ w' = w := by
  have h1 := neq_pprog
  have h2 := neq_rowsmap
  go_enter Tryz.func18, Tryz.ntmps18
  go_wp2
  go_ret
  exact ⟨rfl, rfl⟩
theorem isTable_any (n : Int) (w : World) : Calls Tryz.prog 19 #[.int .i64 n] w fun e w' => e = .returned (.bool (decide (0 ≤ n) && decide (n < 64))) ∧ w' = w := by
  go_enter Tryz.func19, Tryz.ntmps19
  by_cases h1 : 0 ≤ n
  · go_wp2
    go_ret
    exact ⟨by simp [h1], rfl⟩
  · go_wp2
    go_ret
    exact ⟨by simp; omega, rfl⟩
set_option maxHeartbeats 1000000 in
theorem run_nil (t : Option Addr) (n : Int) (cs : Array Value) (w : World) : Calls Tryz.prog 9 #[.pointer none, .pointer t, .int .i64 n, .agg cs] w fun e w' => e = .returned (.tuple #[.slice none 0 0, .int .i64 0, .int .i64 6]) ∧ Below w.heap.size w w' := by
  go_enter Tryz.func9, Tryz.ntmps9
  go_wp2_with (first
    | (go_at_call 18; refine (pmade_no _).mono ?_; rintro e w9 ⟨rfl, rfl⟩; skip)
    | fail)
  refine bodyPost_ret (v := .tuple #[.slice none 0 0, .int .i64 0, .int .i64 6]) ?_ rfl ⟨rfl, below1 _ _⟩
  simp [results, Tryz.f9, go_sem]
set_option maxHeartbeats 1000000 in
theorem set_nil (l : Value) (w : World) : Calls Tryz.prog 10 #[.pointer none, l] w fun e w' => e = .returned (.tuple #[.int .i64 0, .int .i64 0, .int .i64 6]) ∧ w' = w := by
  go_enter Tryz.func10, Tryz.ntmps10
  go_wp2_with (first
    | (go_at_call 18; refine (pmade_no _).mono ?_; rintro e w9 ⟨rfl, rfl⟩; skip)
    | fail)
  refine bodyPost_ret (v := .tuple #[.int .i64 0, .int .i64 0, .int .i64 6]) ?_ rfl ⟨rfl, rfl⟩
  simp [results, Tryz.f10, go_sem]
set_option maxHeartbeats 1000000 in
theorem flows_nil (w : World) : Calls Tryz.prog 11 #[.pointer none] w fun e w' => e = .returned (.slice none 0 0) ∧ w' = w := by
  go_enter Tryz.func11, Tryz.ntmps11
  go_wp2_with (first
    | (go_at_call 18; refine (pmade_no _).mono ?_; rintro e w9 ⟨rfl, rfl⟩; skip)
    | fail)
  go_ret
  exact ⟨rfl, rfl⟩
set_option maxHeartbeats 1000000 in
theorem run_notab {p m : Nat} (n : Int) (cs : Array Value) (w : World) (h : w.cell? ⟨p, 0, none⟩ = some (.map (some m))) : Calls Tryz.prog 9 #[.pointer (some ⟨p, 0, none⟩), .pointer none, .int .i64 n, .agg cs] w fun e w' => e = .returned (.tuple #[.slice none 0 0, .int .i64 0, .int .i64 1]) ∧ Below w.heap.size w w' := by
  have HM : Hid _ := pmade_yes (w.alloc (.cells cs 38)) (((below1 w (.cells cs 38)).cell (p := ⟨p, 0, none⟩) (cell_lt h)).trans h)
  have q := eql_pcttab0
  clear h
  go_enter Tryz.func9, Tryz.ntmps9
  go_wp2_with fail
  refine Calls.mono HM.out ?_
  rintro e w9 ⟨rfl, hw⟩
  rw [hw]
  clear hw HM
  go_wp2
  refine bodyPost_ret (v := .tuple #[.slice none 0 0, .int .i64 0, .int .i64 1]) ?_ rfl ⟨rfl, below1 _ _⟩
  simp [results, Tryz.f9, go_sem]
end Go.Proofs.YtnahhmcmahbnkaaGreatDoor
/- A row's name. Conditions: the row can be read; the digits of its table and of its Priority. -/
namespace Go.Proofs.YtnahhmcmahbnkaaGreatDoor
open Go.RowKit
/-- A Program's row by its cells: the flow's four, and the text. -/
abbrev rwC (t p : Int) (ts ac : Value) (tx : ByteArray) : Array Value := #[.int .i64 t, .int .i64 p, ts, ac, .string tx]
set_option maxRecDepth 20000 in
set_option maxHeartbeats 2000000 in
theorem rname_any (b : Nat) (t p : Int) (ts ac : Value) (tx sT sP : ByteArray) (w : World) (h : w.heap[b]? = some (.cells (rwC t p ts ac tx) 84 (0, 0)))
    (hT : ∀ W, Calls Tryz.prog 49 #[.int .i64 t] W fun e w' => e = .returned (.string sT) ∧ w' = W) (hsz : sT.size + sP.size + tx.size ≤ 1000000) (hP : ∀ W, Calls Tryz.prog 49 #[.int .i64 p] W fun e w' => e = .returned (.string sP) ∧ w' = W) :
    Calls Tryz.prog 26 #[.pointer (some ⟨b, 0, none⟩)] w fun e w' => e = .returned (.string (sT ++ ⟨#[32]⟩ ++ sP ++ ⟨#[32]⟩ ++ tx)) ∧ ∃ n, w' = w.drewN n := by
  have c0 : w.cell? ⟨b, 0, none⟩ = some (.int .i64 t) := cell_row h 0
  have c1 : w.cell? ⟨b, 1, none⟩ = some (.int .i64 p) := cell_row h 1
  have c4 : w.cell? ⟨b, 4, none⟩ = some (.string tx) := cell_row h 4
  have HT : Hid _ := hT
  have HP : Hid _ := hP
  have n1 : ¬ 9223372036854775807 < sT.size + 1 := by omega
  have n2 : ¬ 9223372036854775807 < sT.size + 1 + sP.size := by omega
  have n3 : ¬ 9223372036854775807 < sT.size + 1 + sP.size + 1 := by omega
  have n4 : ¬ 9223372036854775807 < sT.size + 1 + sP.size + 1 + tx.size := by omega
  clear h hT hP hsz
  go_enter Tryz.func26, Tryz.ntmps26
  go_wp2_with fail
  go_quiet (first
    | (go_at_call 49; exact (HT.out _).mono (fun e w' h => ⟨h.1, _, h.2⟩))
    | (go_at_call 49; exact (HP.out _).mono (fun e w' h => ⟨h.1, _, h.2⟩))
    | fail)
  go_wp2
  go_ret
  exact ⟨rfl, _, rfl⟩
end Go.Proofs.YtnahhmcmahbnkaaGreatDoor
