/- The document's table: Add. Conditions: as said. -/
import Derived.Test.YtlopnagajhjmmaaLXa
namespace Go.Proofs.Ytlopnagajhjmmaa
open Go.RowKit Tr
theorem ins_split (x : Ro) : ∀ (L : List Ro) (k : Nat), (∀ j y, j < k → L[j]? = some y → ltR y x) → (∀ y, L[k]? = some y → ¬ ltR y x) → k ≤ L.length → ins x L = L.take k ++ ([x] ++ L.drop k)
  | [], k, _, _, hk => by simp at hk; subst hk; rfl
  | y :: L, 0, _, h, _ => by
    have := h y rfl
    simp [ins, this]
  | y :: L, k + 1, hl, h, hk => by
    have h0 := hl 0 y (by omega) rfl
    rw [ins, if_pos h0, ins_split x L k (fun j z hj hz => hl (j + 1) z (by omega) hz) (fun z hz => h z hz) (by simpa using hk)]
    rfl
/-- A source that is appended. -/
def Src (V : World) (xv : Value) (ys : List Ro) : Prop := (xv = .slice none 0 0 ∧ ys = []) ∨ ∃ ad c, xv = .slice (some ad) ys.length c ∧ ∀ j u, (roV ys)[j]? = some u → V.cell? (ad.add j) = some u
theorem roV_one (ys : List Ro) : ∀ u ∈ roV ys, u.oneCell' = true := by
  intro u hu
  simp only [roV, List.mem_flatMap] at hu
  obtain ⟨x, _, hx⟩ := hu
  simp at hx
  rcases hx with rfl | rfl | rfl <;> rfl
theorem run_append_none3 {P : Program} (w : World) (base : Nat) (t ty e : TypeId) (i : TypeInfo) (size : Nat) (ht : P.underlying t = some (.slice e)) (hi : P.info? e = some i)
    (v : Value) (n c : Nat) (xs : List Value) (hown : w.ownsRow base e size v n xs) :
    (Builtin.append_ #[t, t] ty #[v, .slice none 0 c]).run P w = .ok v w := by
  rcases hown.2 with ⟨rfl, rfl⟩ | ⟨g, cap, cur, rfl, _, _, hnc, _⟩
  · simp [Builtin.append_, run_underlying ht, sizeOf, typeInfo, hi, Builtin.lenOf, Builtin.firstCells]
  · simp [Builtin.append_, run_underlying ht, sizeOf, typeInfo, hi, Builtin.lenOf, Builtin.firstCells, hnc, storeCells]
theorem run_app {V : World} {B : Nat} {sv xv : Value} {n : Nat} {xs : List Value} {ys : List Ro} (ty : TypeId) (hown : V.ownsRow B 37 3 sv n xs) (hsrc : Src V xv ys) (hn : n + ys.length ≤ 549755813890) (hB : B ≤ V.heap.size) :
    ∃ v' V', (Builtin.append_ #[26, 26] ty #[sv, xv]).run Try.prog V = .ok v' V' ∧ V'.ownsRow B 37 3 v' (n + ys.length) (xs ++ roV ys) ∧ V.grownBy V' sv.ownBlock := by
  obtain ⟨i1, hj, hy0, hy1, hy2⟩ := info_parts infoR
  rcases hsrc with ⟨rfl, rfl⟩ | ⟨ad, c, rfl, hc⟩
  · exact ⟨sv, V, run_append_none3 V B 26 ty 37 i1 3 Try.underlying26 hj sv n 0 xs hown, by simpa [roV] using hown, ⟨rfl, rfl, rfl, Nat.le_refl _, fun _ _ _ => rfl⟩⟩
  · obtain ⟨v', V', h1, h2, h3, _, _⟩ := run_append_own_at (P := Try.prog) V B 26 ty 37 i1 (.agg #[.int .u32 0, .int .i64 0, .int .i64 0]) 3 24 Try.underlying26 hj hy0 hy1 hy2 rfl (by decide) sv n xs hown ad ys.length c (roV ys) (roV_len ys) hc (roV_one ys) (by unfold maxLen; omega) (by omega) hB
    exact ⟨v', V', h1, h2, h3⟩
theorem wp_app {op : Oper} {a : Act} {V : World} {K : Act → World → Prop} {Q : Exit → Act → World → Prop} (B : Nat) (s x : Operand) (ho : op.op = Op.call { callee := Callee.builtin Builtin.append, args := #[s, x], argTypes := #[26, 26] })
    (sv xv : Value) (hs : a.eval s = sv) (hx : a.eval x = xv) (n : Nat) (xs : List Value) (ys : List Ro) (hown : V.ownsRow B 37 3 sv n xs) (hsrc : Src V xv ys) (hn : n + ys.length ≤ 549755813890) (hB : B ≤ V.heap.size)
    (h : ∀ v' V', V'.ownsRow B 37 3 v' (n + ys.length) (xs ++ roV ys) → V.grownBy V' sv.ownBlock → K (a.put op.dst v') V') : op.wp Try.prog a V K Q := by
  obtain ⟨v', V', h1, h2, h3⟩ := run_app op.type hown hsrc hn hB
  unfold Oper.wp
  simp [execOp, ho, resolve, invoke, builtin, hs, hx, h1, Result.andThen]
  exact h v' V' h2 h3
/-- What of a table is cut off. -/
theorem RTab.cells {w : World} {B xb : Nat} {L : List Ro} {g qc : Nat} (h : RTab w B xb L (some ⟨g, 0, none⟩) qc) {k : Nat} {ys : List Ro} (hy : ∀ i x, ys[i]? = some x → L[k + i]? = some x) {V : World} (hb : Below w.heap.size w V) : ∀ j u, (roV ys)[j]? = some u → V.cell? ⟨g, k * 3 + j, none⟩ = some u := by
  intro j u hu
  have hj : j < ys.length * 3 := by rw [← roV_len]; exact (List.getElem?_eq_some_iff.1 hu).1
  have hi : j / 3 < ys.length := by omega
  obtain ⟨y, hy1⟩ : ∃ y, ys[j / 3]? = some y := ⟨ys[j / 3], List.getElem?_eq_getElem hi⟩
  obtain ⟨g', e, c0, c1, c2⟩ := h.at (hy _ _ hy1)
  injection e with e; injection e with e; subst e
  obtain ⟨v0, v1, v2⟩ := roV_at2 ys (j / 3) y hy1
  have hm : j % 3 = 0 ∨ j % 3 = 1 ∨ j % 3 = 2 := by omega
  rcases hm with hm | hm | hm
  · rw [show j / 3 * 3 = j by omega, hu] at v0
    injection v0 with v0; subst v0
    rw [show (k + j / 3) * 3 = k * 3 + j by omega] at c0
    exact (hb.cell (cell_lt c0)).trans c0
  · rw [show j / 3 * 3 + 1 = j by omega, hu] at v1
    injection v1 with v1; subst v1
    rw [show (k + j / 3) * 3 + 1 = k * 3 + j by omega] at c1
    exact (hb.cell (cell_lt c1)).trans c1
  · rw [show j / 3 * 3 + 2 = j by omega, hu] at v2
    injection v2 with v2; subst v2
    rw [show (k + j / 3) * 3 + 2 = k * 3 + j by omega] at c2
    exact (hb.cell (cell_lt c2)).trans c2
theorem list_len {L : List Ro} (hs : L.Pairwise ltR) (hr : ∀ x ∈ L, x.2.1 ≤ 32 ∧ rightB x.1 x.2.1 = true) : L.length ≤ 274877906944 := by
  have := len_sorted L 0 274877906944 hs fun x hx => by
    have h := (hr x hx).1
    have := x.1.isLt
    exact ⟨h, Nat.zero_le _, by unfold keyN; omega⟩
  omega
theorem empty_row (V : World) (B : Nat) (hB : B ≤ V.heap.size) : (V.alloc (.cells #[] 37)).ownsRow B 37 3 (.slice (some ⟨V.heap.size, 0, none⟩) 0 0) 0 [] := World.ownsRow_made V #[] 0 hB (by unfold maxLen; omega) rfl
theorem empty_rowE (V : World) (B E : Nat) (hE : V.heap.size = E) (hB : B ≤ V.heap.size) : (V.alloc (.cells #[] 37)).ownsRow B 37 3 (.slice (some ⟨E, 0, none⟩) 0 0) 0 [] := by
  subst hE; exact empty_row V B hB
theorem own_lower {w : World} {B B' : Nat} {v : Value} {n : Nat} {xs : List Value} (hB : B ≤ B') (h : w.ownsRow B' 37 3 v n xs) : w.ownsRow B 37 3 v n xs := by
  refine ⟨h.1, ?_⟩
  rcases h.2 with h0 | ⟨g, cap, cur, e, q1, q2⟩
  · exact .inl h0
  · exact .inr ⟨g, cap, cur, e, by omega, q2⟩
theorem new_row {w : World} {B xb : Nat} {v : Value} {L M : List Ro} {k n : Nat} {x : Ro} {u : Value} {cs : Array Value} (e : M = L.take k ++ ([x] ++ L.drop k)) (hx : w.heap[xb]? = some (.cells cs 28 (0, 0))) (h : w.ownsRow B 37 3 v n ([] ++ roV (L.take k) ++ roV [x] ++ roV (L.drop k))) : (w.setCell ⟨xb, 0, none⟩ u).ownsRow B 37 3 v M.length (roV M) := by
  have e1 : [] ++ roV (L.take k) ++ roV [x] ++ roV (L.drop k) = roV M := by rw [e, roV_append, roV_append]; simp
  rw [e1] at h
  have hn : n = M.length := by have := h.1; rw [roV_len] at this; omega
  subst hn
  refine ⟨h.1, ?_⟩
  rcases h.2 with h0 | ⟨g, cap, cur, e, q1, q2, q3⟩
  · exact .inl h0
  · refine .inr ⟨g, cap, cur, e, q1, (Below.heap_setCell _ _ _ _ ?_).trans q2, q3⟩
    rintro rfl
    rw [hx] at q2; injection q2 with q2; injection q2 with _ q2; cases q2
set_option linter.unusedSimpArgs false in
set_option maxRecDepth 20000 in
set_option maxHeartbeats 4000000 in
theorem radd_ins {w : World} {B xb : Nat} {L : List Ro} {qa : Option Addr} {qc : Nat} (h : RTab w B xb L qa qc) (hs : L.Pairwise ltR) (hr : ∀ x ∈ L, x.2.1 ≤ 32 ∧ rightB x.1 x.2.1 = true) (p : BitVec 32) (m : Nat) (v : Int) (hm : m ≤ 32) (hrt : rightB p m = true) (hc : chk p m = 0) (hno : ∀ x ∈ L, ¬ IsK p m x) (hBw : B ≤ w.heap.size) :
    Calls Try.prog 11 #[ptr xb, .int .u32 p.toNat, .int .i64 m, .int .i64 v] w fun e w' => e = .returned (.int .i64 0) ∧ ∃ qa' qc', RTab w' B xb (ins (p, m, v) L) qa' qc' ∧ Keeps [xb] w w' := by
  have cx : w.cell? ⟨xb, 0, none⟩ = some (.slice qa L.length qc) := cell_row h.blk 0
  have fx := frozen_of_row w _ 0 _ _ h.blk
  have hxl := lt_of_heap h.blk
  have HL : Hid _ := h
  have hlen := h.len
  have HRG : Hid _ := rright_any p m (by constructor <;> omega) w
  rw [hc, show decide ((0 : Int) = 0) = true from rfl] at HRG
  have HF : Hid _ := rfind_any h p m
  have HNO : Hid _ := hno
  have nk : ∀ y ∈ L, ¬ (y.1 = p ∧ y.2.1 = m) := fun y hy e => hno y hy ⟨e.1, by have := e.2; omega⟩
  have HLL : Hid ((ins (p, m, v) L).length ≤ 274877906944) := list_len (sorted_ins _ _ hs nk) fun x hx => by
    rcases (mem_ins _ _ _).1 hx with rfl | hx
    · exact ⟨hm, hrt⟩
    · exact hr x hx
  clear h hs hr hno nk hc hrt
  go_enter Try.func11, Try.ntmps11
  go_wp2_with (first
    | (go_at_call 26; refine Calls.mono HRG.out ?_; rintro e w9 ⟨rfl, hw9⟩; rw [hw9]; clear hw9; skip)
    | fail)
  refine Calls.mono HF.out ?_
  rintro e w9 ⟨r, rfl, hr, hw9⟩
  rw [hw9]; clear hw9 w9
  obtain rfl : r = -1 := by
    rcases hr with ⟨i, x, _, hx, hk⟩ | ⟨e, _⟩
    · exact absurd hk (HNO.out x (List.mem_of_getElem? hx))
    · exact e
  clear hr HF HRG HNO
  go_wp2
  go_loop [9] (fun i => ∃ k : Nat, k ≤ L.length ∧ i = .int .i64 k ∧ Hid (∀ j x, j < k → L[j]? = some x → ltR x (p, m, v))) (fun i => L.length - (intOf i).toNat)
  case atStart => exact ⟨0, Nat.zero_le _, rfl, fun j x hj => by omega⟩
  case round =>
    obtain ⟨k, hk, rfl, hno⟩ := hrel
    by_cases hlt : k < L.length ∧ ∀ x, L[k]? = some x → ltR x (p, m, v)
    · obtain ⟨hlt, hh⟩ := hlt
      obtain ⟨x, hx⟩ : ∃ x, L[k]? = some x := ⟨L[k], List.getElem?_eq_getElem hlt⟩
      obtain ⟨g, rfl, c0, c1, c2⟩ := HL.out.at hx
      have hI : (k : Int) < (L.length : Int) := by omega
      have HX : Hid (∀ j y, j < k + 1 → L[j]? = some y → ltR y (p, m, v)) := fun j y hj hy => by
        by_cases e : j = k
        · subst e; exact hh y hy
        · exact hno.out j y (by omega) hy
      have hlx := hh x hx
      clear hx c2 hh
      rcases hlx with hlx | ⟨e0, e1⟩
      · have d0 : (x.1.toNat : Int) < (p.toNat : Int) := by have : x.1.toNat < p.toNat := hlx; omega
        clear hlx
        go_wp2
        go_round
        case rel => exact ⟨k + 1, by omega, by go_num, HX⟩
        case measure => simp [intOf]; omega
      · have e0' : x.1 = p := e0
        have e1' : x.2.1 < m := e1
        have d0 : ¬ (x.1.toNat : Int) < (p.toNat : Int) := by rw [e0']; omega
        have d1 : ((x.1.toNat : Int) == (p.toNat : Int)) = true := by rw [e0']; simp
        have d2 : (x.2.1 : Int) < (m : Int) := by omega
        clear e0 e1 e0' e1'
        go_wp2
        go_round
        case rel => exact ⟨k + 1, by omega, by go_num, HX⟩
        case measure => simp [intOf]; omega
    · have HK : Hid (ins (p, m, v) L = L.take k ++ ([(p, m, v)] ++ L.drop k)) := ins_split _ L k hno.out (fun y hy hl => hlt ⟨(List.getElem?_eq_some_iff.1 hy).1, fun z hz => by rw [hy] at hz; injection hz with hz; subst hz; exact hl⟩) hk
      by_cases hkl : k < L.length
      · obtain ⟨x, hx⟩ : ∃ x, L[k]? = some x := ⟨L[k], List.getElem?_eq_getElem hkl⟩
        obtain ⟨g, rfl, c0, c1, c2⟩ := HL.out.at hx
        have hI : (k : Int) < (L.length : Int) := by omega
        have hnl : ¬ ltR x (p, m, v) := fun h => hlt ⟨hkl, fun y hy => by rw [hx] at hy; injection hy with hy; subst hy; exact h⟩
        have d0 : ¬ (x.1.toNat : Int) < (p.toNat : Int) := fun h => hnl (.inl (by show x.1.toNat < p.toNat; omega))
        have hcap : L.length ≤ qc := by
          rcases HL.out.own.h.2 with ⟨e, _⟩ | ⟨g9, cap, cur, e, _, _, h3, _⟩
          · cases e
          · injection e with _ _ e; omega
        have hI2 : (L.length : Int) ≤ (qc : Int) := by omega
        have hI3 : (k : Int) ≤ (L.length : Int) := by omega
        have hI4 : (k : Int) < (qc : Int) := by omega
        have hI5 : (0 : Int) ≤ (k : Int) := by omega
        have hI6 : k < qc := by omega
        have hN1 : k ≤ qc := by omega
        have hN2 : ¬ qc = k := by omega
        have KS : Hid (∀ V, Below w.heap.size w V → V.cell? ⟨xb, 0, none⟩ = some (.slice (some ⟨g, 0, none⟩) L.length qc) ∧ Below w.heap.size w V) := fun V hV => ⟨(hV.cell (p := ⟨xb, 0, none⟩) hxl).trans cx, hV⟩
        have HTL : Hid ((L.take k).length + (L.drop k).length ≤ 274877906944 ∧ (L.take k).length = k ∧ (L.drop k).length = L.length - k) := (by simp; omega : (L.take k).length + (L.drop k).length ≤ 274877906944 ∧ (L.take k).length = k ∧ (L.drop k).length = L.length - k)
        have SRC1 : Hid (∀ V, Below w.heap.size w V → Src V (.slice (some ⟨g, 0, none⟩) k qc) (L.take k)) := fun V hV => .inr ⟨⟨g, 0, none⟩, qc, by rw [HTL.out.2.1], fun j u hu => by
          rw [plain_add3]
          have := HL.out.cells (k := 0) (ys := L.take k) (fun i x hx => by rw [List.getElem?_take] at hx; split at hx; rw [Nat.zero_add]; exact hx; cases hx) hV j u hu
          simpa using this⟩
        have SRC3 : Hid (∀ V, Below w.heap.size w V → Src V (.slice (some ⟨g, k * 3, none⟩) (L.length - k) (qc - k)) (L.drop k)) := fun V hV => .inr ⟨⟨g, k * 3, none⟩, (qc - k), by rw [HTL.out.2.2], fun j u hu => by
          rw [plain_add3]
          exact HL.out.cells (k := k) (ys := L.drop k) (fun i x hx => by rw [List.getElem?_drop] at hx; exact hx) hV j u hu⟩
        clear hx c2 hlt
        by_cases e0 : x.1 = p
        · have d1 : ((x.1.toNat : Int) == (p.toNat : Int)) = true := by rw [e0]; simp
          have d2 : ¬ (x.2.1 : Int) < (m : Int) := fun h => hnl (.inr ⟨e0, by show x.2.1 < m; omega⟩)
          clear e0 hnl
          go_wp2
          have hHeld : w.drew.cell? ⟨xb, 0, none⟩ = some (.slice (some ⟨g, 0, none⟩) L.length qc) ∧ Below w.heap.size w w.drew := ⟨cx, (Below.refl _ _).drew⟩
          refine region_but (fun V => V.cell? ⟨xb, 0, none⟩ = some (.slice (some ⟨g, 0, none⟩) L.length qc) ∧ Below w.heap.size w V) 24 (by kernel_rfl) ?_
          refine HeldBut.take (i := 0) (v := ?_) rfl (by kernel_rfl) (by kernel_rfl) (by kernel_rfl) (by kernel_rfl) (fun _ _ _ h => h) (Or.inl ⟨by rfl, ?_⟩) (by assumption) ?_
          rotate_left
          · (intro w hSw; (try dsimp only at hSw); go_simp; try with_reducible rfl)
          try simp only [List.getElem_toArray, List.getElem_cons_zero, List.getElem_cons_succ, Act.put, List.setIfInBounds_toArray, List.set_cons_zero, List.set_cons_succ]
          refine HeldBut.take (i := 2) (v := ?_) rfl (by kernel_rfl) (by kernel_rfl) (by kernel_rfl) (by kernel_rfl) (fun _ _ _ h => h) (Or.inl ⟨by rfl, ?_⟩) (by assumption) ?_
          rotate_left
          · (intro w hSw; (try dsimp only at hSw); go_simp; try with_reducible rfl)
          try simp only [List.getElem_toArray, List.getElem_cons_zero, List.getElem_cons_succ, Act.put, List.setIfInBounds_toArray, List.set_cons_zero, List.set_cons_succ]
          refine HeldBut.take (i := 3) (v := ?_) rfl (by kernel_rfl) (by kernel_rfl) (by kernel_rfl) (by kernel_rfl) (fun _ _ _ h => h) (Or.inl ⟨by rfl, ?_⟩) (by assumption) ?_
          rotate_left
          · (intro w hSw; (try dsimp only at hSw); go_simp; try with_reducible rfl)
          try simp only [List.getElem_toArray, List.getElem_cons_zero, List.getElem_cons_succ, Act.put, List.setIfInBounds_toArray, List.set_cons_zero, List.set_cons_succ]
          refine HeldBut.take (i := 4) (v := ?_) rfl (by kernel_rfl) (by kernel_rfl) (by kernel_rfl) (by kernel_rfl) (fun _ _ _ h => h) (Or.inl ⟨by rfl, ?_⟩) (by assumption) ?_
          rotate_left
          · (intro w hSw; (try dsimp only at hSw); go_simp; try with_reducible rfl)
          try simp only [List.getElem_toArray, List.getElem_cons_zero, List.getElem_cons_succ, Act.put, List.setIfInBounds_toArray, List.set_cons_zero, List.set_cons_succ]
          refine HeldBut.take (i := 5) (v := ?_) rfl (by kernel_rfl) (by kernel_rfl) (by kernel_rfl) (by kernel_rfl) (fun _ _ _ h => h) (Or.inl ⟨by rfl, ?_⟩) (by assumption) ?_
          rotate_left
          · (intro w hSw; (try dsimp only at hSw); go_simp; try with_reducible rfl)
          try simp only [List.getElem_toArray, List.getElem_cons_zero, List.getElem_cons_succ, Act.put, List.setIfInBounds_toArray, List.set_cons_zero, List.set_cons_succ]
          refine HeldBut.take (i := 6) (v := ?_) rfl (by kernel_rfl) (by kernel_rfl) (by kernel_rfl) (by kernel_rfl) (fun _ _ _ h => h) (Or.inl ⟨by rfl, ?_⟩) (by assumption) ?_
          rotate_left
          · (intro w hSw; (try dsimp only at hSw); go_simp; try with_reducible rfl)
          try simp only [List.getElem_toArray, List.getElem_cons_zero, List.getElem_cons_succ, Act.put, List.setIfInBounds_toArray, List.set_cons_zero, List.set_cons_succ]
          refine HeldBut.take (i := 7) (v := ?_) rfl (by kernel_rfl) (by kernel_rfl) (by kernel_rfl) (by kernel_rfl) (fun _ _ _ h => h) (Or.inl ⟨by rfl, ?_⟩) (by assumption) ?_
          rotate_left
          · (intro w hSw; (try dsimp only at hSw); go_simp; try with_reducible rfl)
          try simp only [List.getElem_toArray, List.getElem_cons_zero, List.getElem_cons_succ, Act.put, List.setIfInBounds_toArray, List.set_cons_zero, List.set_cons_succ]
          refine HeldBut.take (i := 9) (v := ?_) rfl (by kernel_rfl) (by kernel_rfl) (by kernel_rfl) (by kernel_rfl) (fun _ _ _ h => h) (Or.inl ⟨by rfl, ?_⟩) (by assumption) ?_
          rotate_left
          · (intro w hSw; (try dsimp only at hSw); go_simp; try with_reducible rfl)
          try simp only [List.getElem_toArray, List.getElem_cons_zero, List.getElem_cons_succ, Act.put, List.setIfInBounds_toArray, List.set_cons_zero, List.set_cons_succ]
          refine HeldBut.take (i := 10) (v := ?_) rfl (by kernel_rfl) (by kernel_rfl) (by kernel_rfl) (by kernel_rfl) (fun _ _ _ h => h) (Or.inl ⟨by rfl, ?_⟩) (by assumption) ?_
          rotate_left
          · (intro w hSw; (try dsimp only at hSw); go_simp; try with_reducible rfl)
          try simp only [List.getElem_toArray, List.getElem_cons_zero, List.getElem_cons_succ, Act.put, List.setIfInBounds_toArray, List.set_cons_zero, List.set_cons_succ]
          refine HeldBut.take (i := 11) (v := ?_) rfl (by kernel_rfl) (by kernel_rfl) (by kernel_rfl) (by kernel_rfl) (fun _ _ _ h => h) (Or.inl ⟨by rfl, ?_⟩) (by assumption) ?_
          rotate_left
          · (intro w hSw; (try dsimp only at hSw); go_simp; try with_reducible rfl)
          try simp only [List.getElem_toArray, List.getElem_cons_zero, List.getElem_cons_succ, Act.put, List.setIfInBounds_toArray, List.set_cons_zero, List.set_cons_succ]
          refine HeldBut.take (i := 12) (v := ?_) rfl (by kernel_rfl) (by kernel_rfl) (by kernel_rfl) (by kernel_rfl) (fun _ _ _ h => h) (Or.inl ⟨by rfl, ?_⟩) (by assumption) ?_
          rotate_left
          · (intro w hSw; (try dsimp only at hSw); go_simp; try with_reducible rfl)
          try simp only [List.getElem_toArray, List.getElem_cons_zero, List.getElem_cons_succ, Act.put, List.setIfInBounds_toArray, List.set_cons_zero, List.set_cons_succ]
          refine HeldBut.take (i := 15) (v := ?_) rfl (by kernel_rfl) (by kernel_rfl) (by kernel_rfl) (by kernel_rfl) (fun _ _ _ h => h) (Or.inl ⟨by rfl, ?_⟩) (by assumption) ?_
          rotate_left
          · (intro w hSw; (try dsimp only at hSw); go_simp; try with_reducible rfl)
          try simp only [List.getElem_toArray, List.getElem_cons_zero, List.getElem_cons_succ, Act.put, List.setIfInBounds_toArray, List.set_cons_zero, List.set_cons_succ]
          refine HeldBut.take (i := 16) (v := ?_) rfl (by kernel_rfl) (by kernel_rfl) (by kernel_rfl) (by kernel_rfl) (fun _ _ _ h => h) (Or.inl ⟨by rfl, ?_⟩) (by assumption) ?_
          rotate_left
          · (intro w hSw; (try dsimp only at hSw); go_simp; try with_reducible rfl)
          try simp only [List.getElem_toArray, List.getElem_cons_zero, List.getElem_cons_succ, Act.put, List.setIfInBounds_toArray, List.set_cons_zero, List.set_cons_succ]
          refine HeldBut.take (i := 17) (v := ?_) rfl (by kernel_rfl) (by kernel_rfl) (by kernel_rfl) (by kernel_rfl) (fun _ _ _ h => h) (Or.inl ⟨by rfl, ?_⟩) (by assumption) ?_
          rotate_left
          · (intro w hSw; (try dsimp only at hSw); go_simp; try with_reducible rfl)
          try simp only [List.getElem_toArray, List.getElem_cons_zero, List.getElem_cons_succ, Act.put, List.setIfInBounds_toArray, List.set_cons_zero, List.set_cons_succ]
          refine HeldBut.take (i := 18) (v := ?_) rfl (by kernel_rfl) (by kernel_rfl) (by kernel_rfl) (by kernel_rfl) (fun _ _ _ h => h) (Or.inl ⟨by rfl, ?_⟩) (by assumption) ?_
          rotate_left
          · (intro w hSw; (try dsimp only at hSw); go_simp; try with_reducible rfl)
          try simp only [List.getElem_toArray, List.getElem_cons_zero, List.getElem_cons_succ, Act.put, List.setIfInBounds_toArray, List.set_cons_zero, List.set_cons_succ]
          refine HeldBut.take (i := 19) (v := ?_) rfl (by kernel_rfl) (by kernel_rfl) (by kernel_rfl) (by kernel_rfl) (fun _ _ _ h => h) (Or.inl ⟨by rfl, ?_⟩) (by assumption) ?_
          rotate_left
          · (intro w hSw; (try dsimp only at hSw); go_simp; try with_reducible rfl)
          try simp only [List.getElem_toArray, List.getElem_cons_zero, List.getElem_cons_succ, Act.put, List.setIfInBounds_toArray, List.set_cons_zero, List.set_cons_succ]
          refine HeldBut.take (i := 20) (v := ?_) rfl (by kernel_rfl) (by kernel_rfl) (by kernel_rfl) (by kernel_rfl) (fun _ _ _ h => h) (Or.inl ⟨by rfl, ?_⟩) (by assumption) ?_
          rotate_left
          · (intro w hSw; (try dsimp only at hSw); go_simp; try with_reducible rfl)
          try simp only [List.getElem_toArray, List.getElem_cons_zero, List.getElem_cons_succ, Act.put, List.setIfInBounds_toArray, List.set_cons_zero, List.set_cons_succ]
          refine HeldBut.ready (rs := [1, 13]) (by kernel_rfl) (by simp) ?_
          refine AllBut.cons (o := _) rfl (fun K hK => ?_) (AllBut.cons (o := _) rfl (fun K hK => ?_) AllBut.nil)
          · go_simp
            clear hHeld
            have hHeld := KS.out _ ((below1 w (.cells #[] 37)).drew)
            refine hK.out _ _ (.inr hHeld) ?_
            clear hK K
            try simp only [List.getElem_toArray, List.getElem_cons_zero, List.getElem_cons_succ, Act.put, List.setIfInBounds_toArray, List.set_cons_zero, List.set_cons_succ]
            refine HeldBut.ready (rs := [8, 13]) (by kernel_rfl) (by simp) ?_
            refine AllBut.cons (o := _) rfl (fun K hK => ?_) (AllBut.cons (o := _) rfl (fun K hK => ?_) AllBut.nil)
            · refine wp_app w.heap.size _ _ rfl (.slice (some ⟨w.heap.size, 0, none⟩) 0 0) _ rfl rfl 0 [] (L.take k) (empty_row w w.heap.size (Nat.le_refl _)) (SRC1.out _ ((below1 w (.cells #[] 37)).drew)) (by have := HTL.out; omega) (by first | (simp; done) | (simp; omega) | omega) ?_
              intro v1 V1 o1 g1
              rw [show 0 + (L.take k).length = k by have := HTL.out; omega] at o1
              have bV1 : Below w.heap.size w V1 := Below.grown ((below1 w (.cells #[] 37)).drew) g1 (by first | (simp; done) | (simp; omega) | omega) (fun j hj => (World.ownsRow.lt (empty_row w w.heap.size (Nat.le_refl _)) j hj).1)
              obtain ⟨a1, q1, rfl⟩ := own_slice3 o1
              clear hHeld
              have hHeld := KS.out _ (bV1)
              refine hK.out _ _ (.inr hHeld) ?_
              clear hK K
              try simp only [List.getElem_toArray, List.getElem_cons_zero, List.getElem_cons_succ, Act.put, List.setIfInBounds_toArray, List.set_cons_zero, List.set_cons_succ]
              refine HeldBut.ready (rs := [13]) (by kernel_rfl) (by simp) ?_
              refine AllBut.cons (o := _) rfl (fun K hK => ?_) AllBut.nil
              go_simp
              clear hHeld
              have hHeld := KS.out _ (bV1.alloc bV1.size (.cells #[.int .u32 p.toNat, .int .i64 m, .int .i64 v] 37))
              refine hK.out _ _ (.inr hHeld) ?_
              clear hK K
              try simp only [List.getElem_toArray, List.getElem_cons_zero, List.getElem_cons_succ, Act.put, List.setIfInBounds_toArray, List.set_cons_zero, List.set_cons_succ]
              refine HeldBut.ready (rs := [14]) (by kernel_rfl) (by simp) ?_
              refine AllBut.cons (o := _) rfl (fun K hK => ?_) AllBut.nil
              refine wp_app w.heap.size _ _ rfl (.slice a1 k q1) _ rfl rfl _ _ [(p, m, v)] (World.ownsRow.alloc o1 (.cells #[.int .u32 p.toNat, .int .i64 m, .int .i64 v] 37)) (Or.inr ⟨⟨V1.heap.size, 0, none⟩, 1, rfl, cells_new3 V1 _ _ _ _⟩) (by have := HTL.out; first | omega | (simp only [List.length_cons, List.length_nil]; omega)) (by have := bV1.size; first | omega | (simp; omega)) ?_
              intro v2 V2 o2 g2
              rw [show k + [(p, m, v)].length = k + 1 from rfl] at o2
              have bV2 : Below w.heap.size w V2 := Below.grown (bV1.alloc bV1.size (.cells #[.int .u32 p.toNat, .int .i64 m, .int .i64 v] 37)) g2 (by have := bV1.size; first | omega | (simp; omega)) (fun j hj => (World.ownsRow.lt (World.ownsRow.alloc o1 (.cells #[.int .u32 p.toNat, .int .i64 m, .int .i64 v] 37)) j hj).1)
              obtain ⟨a2, q2, rfl⟩ := own_slice3 o2
              clear hHeld
              have hHeld := KS.out _ (bV2)
              refine hK.out _ _ (.inr hHeld) ?_
              clear hK K
              try simp only [List.getElem_toArray, List.getElem_cons_zero, List.getElem_cons_succ, Act.put, List.setIfInBounds_toArray, List.set_cons_zero, List.set_cons_succ]
              refine HeldBut.ready (rs := [21]) (by kernel_rfl) (by simp) ?_
              refine AllBut.cons (o := _) rfl (fun K hK => ?_) AllBut.nil
              refine wp_app w.heap.size _ _ rfl (.slice a2 (k + 1) q2) _ rfl rfl _ _ (L.drop k) o2 (SRC3.out _ bV2) (by have := HTL.out; first | omega | (simp only [List.length_cons, List.length_nil]; omega)) (by have := bV2.size; omega) ?_
              intro v3 V3 o3 g3
              rw [show k + 1 + (L.drop k).length = L.length + 1 by have := HTL.out; omega] at o3
              have bV3 : Below w.heap.size w V3 := Below.grown bV2 g3 (by have := bV2.size; omega) (fun j hj => (World.ownsRow.lt o2 j hj).1)
              obtain ⟨a3, q3, rfl⟩ := own_slice3 o3
              clear hHeld
              have hHeld := KS.out _ (bV3)
              refine hK.out _ _ (.inr hHeld) ?_
              clear hK K
              try simp only [List.getElem_toArray, List.getElem_cons_zero, List.getElem_cons_succ, Act.put, List.setIfInBounds_toArray, List.set_cons_zero, List.set_cons_succ]
              refine HeldBut.ready (rs := [22]) (by kernel_rfl) (by simp) ?_
              refine AllBut.cons (o := _) rfl (fun K hK => ?_) AllBut.nil
              go_simp
              clear hHeld
              have hHeld := KS.out _ (bV3)
              refine hK.out _ _ (.inr hHeld) ?_
              clear hK K
              try simp only [List.getElem_toArray, List.getElem_cons_zero, List.getElem_cons_succ, Act.put, List.setIfInBounds_toArray, List.set_cons_zero, List.set_cons_succ]
              refine HeldBut.take (i := 23) (v := ?_) rfl (by kernel_rfl) (by kernel_rfl) (by kernel_rfl) (by kernel_rfl) (fun _ _ _ h => h) (Or.inl ⟨by rfl, ?_⟩) (by assumption) ?_
              rotate_left
              · (intro w hSw; (try dsimp only at hSw); go_simp; try with_reducible rfl)
              try simp only [List.getElem_toArray, List.getElem_cons_zero, List.getElem_cons_succ, Act.put, List.setIfInBounds_toArray, List.set_cons_zero, List.set_cons_succ]
              refine HeldBut.ready (rs := [24]) (by kernel_rfl) (by simp) ?_
              refine AllBut.cons (o := _) rfl (fun K hK => ?_) AllBut.nil
              have rx : V3.heap[xb]? = _ := (bV3.block xb hxl).trans HL.out.blk
              have cx3 : V3.cell? ⟨xb, 0, none⟩ = _ := cell_row rx 0
              have fx3 := frozen_of_row V3 _ 0 _ _ rx
              have FIN : Hid _ := o3
              clear hHeld o3
              go_simp
              refine hK.out _ _ (.inl rfl) ?_
              refine HeldBut.done (by kernel_rfl) ?_ _
              clear hK K
              go_wp2
              go_ret
              refine ⟨rfl, a3, q3, ⟨?_, ⟨?_⟩, HL.out.lo, HLL.out⟩, (Keeps.of_below [xb] bV3).trans (Keeps.setCell _ xb _ _) (by simp)⟩
              · refine (row_setCell rx 0 _).trans ?_
                rw [len_ins]
                rfl
              · have := FIN.out
                rw [len_ins]; have h9 := own_lower hBw (new_row (u := .slice a3 (L.length + 1) q3) HK.out rx this); rw [len_ins] at h9; exact h9
            · go_simp
              clear hHeld
              have hHeld := KS.out _ ((below2 w (.cells #[] 37) (.cells #[.int .u32 p.toNat, .int .i64 m, .int .i64 v] 37)).drew)
              refine hK.out _ _ (.inr hHeld) ?_
              clear hK K
              try simp only [List.getElem_toArray, List.getElem_cons_zero, List.getElem_cons_succ, Act.put, List.setIfInBounds_toArray, List.set_cons_zero, List.set_cons_succ]
              refine HeldBut.ready (rs := [8]) (by kernel_rfl) (by simp) ?_
              refine AllBut.cons (o := _) rfl (fun K hK => ?_) AllBut.nil
              refine wp_app w.heap.size _ _ rfl (.slice (some ⟨w.heap.size, 0, none⟩) 0 0) _ rfl rfl 0 [] (L.take k) (World.ownsRow.alloc (empty_row w w.heap.size (Nat.le_refl _)) (.cells #[.int .u32 p.toNat, .int .i64 m, .int .i64 v] 37)) (SRC1.out _ ((below2 w (.cells #[] 37) (.cells #[.int .u32 p.toNat, .int .i64 m, .int .i64 v] 37)).drew)) (by have := HTL.out; omega) (by first | (simp; done) | (simp; omega) | omega) ?_
              intro v1 V1 o1 g1
              rw [show 0 + (L.take k).length = k by have := HTL.out; omega] at o1
              have bV1 : Below w.heap.size w V1 := Below.grown ((below2 w (.cells #[] 37) (.cells #[.int .u32 p.toNat, .int .i64 m, .int .i64 v] 37)).drew) g1 (by first | (simp; done) | (simp; omega) | omega) (fun j hj => (World.ownsRow.lt (World.ownsRow.alloc (empty_row w w.heap.size (Nat.le_refl _)) (.cells #[.int .u32 p.toNat, .int .i64 m, .int .i64 v] 37)) j hj).1)
              have xc : ∀ j u, (roV [(p, m, v)])[j]? = some u → V1.cell? ((⟨w.heap.size + 1, 0, none⟩ : Addr).add j) = some u := fun j u hu => g1.cell (by have := cells_new3 (w.alloc (.cells #[] 37)) (.int .u32 p.toNat) (.int .i64 m) (.int .i64 v) 37 j u hu; simpa using this) (by simp [Value.ownBlock, plain_add3])
              obtain ⟨a1, q1, rfl⟩ := own_slice3 o1
              clear hHeld
              have hHeld := KS.out _ (bV1)
              refine hK.out _ _ (.inr hHeld) ?_
              clear hK K
              try simp only [List.getElem_toArray, List.getElem_cons_zero, List.getElem_cons_succ, Act.put, List.setIfInBounds_toArray, List.set_cons_zero, List.set_cons_succ]
              refine HeldBut.ready (rs := [14]) (by kernel_rfl) (by simp) ?_
              refine AllBut.cons (o := _) rfl (fun K hK => ?_) AllBut.nil
              refine wp_app w.heap.size _ _ rfl (.slice a1 k q1) _ rfl rfl _ _ [(p, m, v)] (o1) (Or.inr ⟨⟨w.heap.size + 1, 0, none⟩, 1, rfl, xc⟩) (by have := HTL.out; first | omega | (simp only [List.length_cons, List.length_nil]; omega)) (by have := bV1.size; first | omega | (simp; omega)) ?_
              intro v2 V2 o2 g2
              rw [show k + [(p, m, v)].length = k + 1 from rfl] at o2
              have bV2 : Below w.heap.size w V2 := Below.grown (bV1) g2 (by have := bV1.size; first | omega | (simp; omega)) (fun j hj => (World.ownsRow.lt (o1) j hj).1)
              obtain ⟨a2, q2, rfl⟩ := own_slice3 o2
              clear hHeld
              have hHeld := KS.out _ (bV2)
              refine hK.out _ _ (.inr hHeld) ?_
              clear hK K
              try simp only [List.getElem_toArray, List.getElem_cons_zero, List.getElem_cons_succ, Act.put, List.setIfInBounds_toArray, List.set_cons_zero, List.set_cons_succ]
              refine HeldBut.ready (rs := [21]) (by kernel_rfl) (by simp) ?_
              refine AllBut.cons (o := _) rfl (fun K hK => ?_) AllBut.nil
              refine wp_app w.heap.size _ _ rfl (.slice a2 (k + 1) q2) _ rfl rfl _ _ (L.drop k) o2 (SRC3.out _ bV2) (by have := HTL.out; first | omega | (simp only [List.length_cons, List.length_nil]; omega)) (by have := bV2.size; omega) ?_
              intro v3 V3 o3 g3
              rw [show k + 1 + (L.drop k).length = L.length + 1 by have := HTL.out; omega] at o3
              have bV3 : Below w.heap.size w V3 := Below.grown bV2 g3 (by have := bV2.size; omega) (fun j hj => (World.ownsRow.lt o2 j hj).1)
              obtain ⟨a3, q3, rfl⟩ := own_slice3 o3
              clear hHeld
              have hHeld := KS.out _ (bV3)
              refine hK.out _ _ (.inr hHeld) ?_
              clear hK K
              try simp only [List.getElem_toArray, List.getElem_cons_zero, List.getElem_cons_succ, Act.put, List.setIfInBounds_toArray, List.set_cons_zero, List.set_cons_succ]
              refine HeldBut.ready (rs := [22]) (by kernel_rfl) (by simp) ?_
              refine AllBut.cons (o := _) rfl (fun K hK => ?_) AllBut.nil
              go_simp
              clear hHeld
              have hHeld := KS.out _ (bV3)
              refine hK.out _ _ (.inr hHeld) ?_
              clear hK K
              try simp only [List.getElem_toArray, List.getElem_cons_zero, List.getElem_cons_succ, Act.put, List.setIfInBounds_toArray, List.set_cons_zero, List.set_cons_succ]
              refine HeldBut.take (i := 23) (v := ?_) rfl (by kernel_rfl) (by kernel_rfl) (by kernel_rfl) (by kernel_rfl) (fun _ _ _ h => h) (Or.inl ⟨by rfl, ?_⟩) (by assumption) ?_
              rotate_left
              · (intro w hSw; (try dsimp only at hSw); go_simp; try with_reducible rfl)
              try simp only [List.getElem_toArray, List.getElem_cons_zero, List.getElem_cons_succ, Act.put, List.setIfInBounds_toArray, List.set_cons_zero, List.set_cons_succ]
              refine HeldBut.ready (rs := [24]) (by kernel_rfl) (by simp) ?_
              refine AllBut.cons (o := _) rfl (fun K hK => ?_) AllBut.nil
              have rx : V3.heap[xb]? = _ := (bV3.block xb hxl).trans HL.out.blk
              have cx3 : V3.cell? ⟨xb, 0, none⟩ = _ := cell_row rx 0
              have fx3 := frozen_of_row V3 _ 0 _ _ rx
              have FIN : Hid _ := o3
              clear hHeld o3
              go_simp
              refine hK.out _ _ (.inl rfl) ?_
              refine HeldBut.done (by kernel_rfl) ?_ _
              clear hK K
              go_wp2
              go_ret
              refine ⟨rfl, a3, q3, ⟨?_, ⟨?_⟩, HL.out.lo, HLL.out⟩, (Keeps.of_below [xb] bV3).trans (Keeps.setCell _ xb _ _) (by simp)⟩
              · refine (row_setCell rx 0 _).trans ?_
                rw [len_ins]
                rfl
              · have := FIN.out
                rw [len_ins]; have h9 := own_lower hBw (new_row (u := .slice a3 (L.length + 1) q3) HK.out rx this); rw [len_ins] at h9; exact h9
          · go_simp
            clear hHeld
            have hHeld := KS.out _ ((below1 w (.cells #[.int .u32 p.toNat, .int .i64 m, .int .i64 v] 37)).drew)
            refine hK.out _ _ (.inr hHeld) ?_
            clear hK K
            try simp only [List.getElem_toArray, List.getElem_cons_zero, List.getElem_cons_succ, Act.put, List.setIfInBounds_toArray, List.set_cons_zero, List.set_cons_succ]
            refine HeldBut.ready (rs := [1]) (by kernel_rfl) (by simp) ?_
            refine AllBut.cons (o := _) rfl (fun K hK => ?_) AllBut.nil
            go_simp
            clear hHeld
            have hHeld := KS.out _ ((below2 w (.cells #[.int .u32 p.toNat, .int .i64 m, .int .i64 v] 37) (.cells #[] 37)).drew)
            refine hK.out _ _ (.inr hHeld) ?_
            clear hK K
            try simp only [List.getElem_toArray, List.getElem_cons_zero, List.getElem_cons_succ, Act.put, List.setIfInBounds_toArray, List.set_cons_zero, List.set_cons_succ]
            refine HeldBut.ready (rs := [8]) (by kernel_rfl) (by simp) ?_
            refine AllBut.cons (o := _) rfl (fun K hK => ?_) AllBut.nil
            refine wp_app w.heap.size _ _ rfl (.slice (some ⟨w.heap.size + 1, 0, none⟩) 0 0) _ rfl rfl 0 [] (L.take k) (empty_rowE (w.alloc (.cells #[.int .u32 p.toNat, .int .i64 m, .int .i64 v] 37)) w.heap.size (w.heap.size + 1) (by simp) (by simp)) (SRC1.out _ ((below2 w (.cells #[.int .u32 p.toNat, .int .i64 m, .int .i64 v] 37) (.cells #[] 37)).drew)) (by have := HTL.out; omega) (by first | (simp; done) | (simp; omega) | omega) ?_
            intro v1 V1 o1 g1
            rw [show 0 + (L.take k).length = k by have := HTL.out; omega] at o1
            have bV1 : Below w.heap.size w V1 := Below.grown ((below2 w (.cells #[.int .u32 p.toNat, .int .i64 m, .int .i64 v] 37) (.cells #[] 37)).drew) g1 (by first | (simp; done) | (simp; omega) | omega) (fun j hj => (World.ownsRow.lt (empty_rowE (w.alloc (.cells #[.int .u32 p.toNat, .int .i64 m, .int .i64 v] 37)) w.heap.size (w.heap.size + 1) (by simp) (by simp)) j hj).1)
            have xc : ∀ j u, (roV [(p, m, v)])[j]? = some u → V1.cell? ((⟨w.heap.size, 0, none⟩ : Addr).add j) = some u := fun j u hu => g1.cell (by have := cells_new3 w (.int .u32 p.toNat) (.int .i64 m) (.int .i64 v) 37 j u hu; rw [plain_add3] at this ⊢; exact ((below1 (w.alloc (.cells #[.int .u32 p.toNat, .int .i64 m, .int .i64 v] 37)) (.cells #[] 37)).cell (p := ⟨w.heap.size, 0 + j, none⟩) (by simp)).trans this) (by simp [Value.ownBlock, plain_add3])
            obtain ⟨a1, q1, rfl⟩ := own_slice3 o1
            clear hHeld
            have hHeld := KS.out _ (bV1)
            refine hK.out _ _ (.inr hHeld) ?_
            clear hK K
            try simp only [List.getElem_toArray, List.getElem_cons_zero, List.getElem_cons_succ, Act.put, List.setIfInBounds_toArray, List.set_cons_zero, List.set_cons_succ]
            refine HeldBut.ready (rs := [14]) (by kernel_rfl) (by simp) ?_
            refine AllBut.cons (o := _) rfl (fun K hK => ?_) AllBut.nil
            refine wp_app w.heap.size _ _ rfl (.slice a1 k q1) _ rfl rfl _ _ [(p, m, v)] (o1) (Or.inr ⟨⟨w.heap.size, 0, none⟩, 1, rfl, xc⟩) (by have := HTL.out; first | omega | (simp only [List.length_cons, List.length_nil]; omega)) (by have := bV1.size; first | omega | (simp; omega)) ?_
            intro v2 V2 o2 g2
            rw [show k + [(p, m, v)].length = k + 1 from rfl] at o2
            have bV2 : Below w.heap.size w V2 := Below.grown (bV1) g2 (by have := bV1.size; first | omega | (simp; omega)) (fun j hj => (World.ownsRow.lt (o1) j hj).1)
            obtain ⟨a2, q2, rfl⟩ := own_slice3 o2
            clear hHeld
            have hHeld := KS.out _ (bV2)
            refine hK.out _ _ (.inr hHeld) ?_
            clear hK K
            try simp only [List.getElem_toArray, List.getElem_cons_zero, List.getElem_cons_succ, Act.put, List.setIfInBounds_toArray, List.set_cons_zero, List.set_cons_succ]
            refine HeldBut.ready (rs := [21]) (by kernel_rfl) (by simp) ?_
            refine AllBut.cons (o := _) rfl (fun K hK => ?_) AllBut.nil
            refine wp_app w.heap.size _ _ rfl (.slice a2 (k + 1) q2) _ rfl rfl _ _ (L.drop k) o2 (SRC3.out _ bV2) (by have := HTL.out; first | omega | (simp only [List.length_cons, List.length_nil]; omega)) (by have := bV2.size; omega) ?_
            intro v3 V3 o3 g3
            rw [show k + 1 + (L.drop k).length = L.length + 1 by have := HTL.out; omega] at o3
            have bV3 : Below w.heap.size w V3 := Below.grown bV2 g3 (by have := bV2.size; omega) (fun j hj => (World.ownsRow.lt o2 j hj).1)
            obtain ⟨a3, q3, rfl⟩ := own_slice3 o3
            clear hHeld
            have hHeld := KS.out _ (bV3)
            refine hK.out _ _ (.inr hHeld) ?_
            clear hK K
            try simp only [List.getElem_toArray, List.getElem_cons_zero, List.getElem_cons_succ, Act.put, List.setIfInBounds_toArray, List.set_cons_zero, List.set_cons_succ]
            refine HeldBut.ready (rs := [22]) (by kernel_rfl) (by simp) ?_
            refine AllBut.cons (o := _) rfl (fun K hK => ?_) AllBut.nil
            go_simp
            clear hHeld
            have hHeld := KS.out _ (bV3)
            refine hK.out _ _ (.inr hHeld) ?_
            clear hK K
            try simp only [List.getElem_toArray, List.getElem_cons_zero, List.getElem_cons_succ, Act.put, List.setIfInBounds_toArray, List.set_cons_zero, List.set_cons_succ]
            refine HeldBut.take (i := 23) (v := ?_) rfl (by kernel_rfl) (by kernel_rfl) (by kernel_rfl) (by kernel_rfl) (fun _ _ _ h => h) (Or.inl ⟨by rfl, ?_⟩) (by assumption) ?_
            rotate_left
            · (intro w hSw; (try dsimp only at hSw); go_simp; try with_reducible rfl)
            try simp only [List.getElem_toArray, List.getElem_cons_zero, List.getElem_cons_succ, Act.put, List.setIfInBounds_toArray, List.set_cons_zero, List.set_cons_succ]
            refine HeldBut.ready (rs := [24]) (by kernel_rfl) (by simp) ?_
            refine AllBut.cons (o := _) rfl (fun K hK => ?_) AllBut.nil
            have rx : V3.heap[xb]? = _ := (bV3.block xb hxl).trans HL.out.blk
            have cx3 : V3.cell? ⟨xb, 0, none⟩ = _ := cell_row rx 0
            have fx3 := frozen_of_row V3 _ 0 _ _ rx
            have FIN : Hid _ := o3
            clear hHeld o3
            go_simp
            refine hK.out _ _ (.inl rfl) ?_
            refine HeldBut.done (by kernel_rfl) ?_ _
            clear hK K
            go_wp2
            go_ret
            refine ⟨rfl, a3, q3, ⟨?_, ⟨?_⟩, HL.out.lo, HLL.out⟩, (Keeps.of_below [xb] bV3).trans (Keeps.setCell _ xb _ _) (by simp)⟩
            · refine (row_setCell rx 0 _).trans ?_
              rw [len_ins]
              rfl
            · have := FIN.out
              rw [len_ins]; have h9 := own_lower hBw (new_row (u := .slice a3 (L.length + 1) q3) HK.out rx this); rw [len_ins] at h9; exact h9
        · have d1 : ((x.1.toNat : Int) == (p.toNat : Int)) = false := by
            cases hh : ((x.1.toNat : Int) == (p.toNat : Int)) with
            | false => rfl
            | true => exact absurd (BitVec.eq_of_toNat_eq (by have := eq_of_beq hh; omega)) e0
          clear e0 hnl
          go_wp2
          have hHeld : w.drew.cell? ⟨xb, 0, none⟩ = some (.slice (some ⟨g, 0, none⟩) L.length qc) ∧ Below w.heap.size w w.drew := ⟨cx, (Below.refl _ _).drew⟩
          refine region_but (fun V => V.cell? ⟨xb, 0, none⟩ = some (.slice (some ⟨g, 0, none⟩) L.length qc) ∧ Below w.heap.size w V) 24 (by kernel_rfl) ?_
          refine HeldBut.take (i := 0) (v := ?_) rfl (by kernel_rfl) (by kernel_rfl) (by kernel_rfl) (by kernel_rfl) (fun _ _ _ h => h) (Or.inl ⟨by rfl, ?_⟩) (by assumption) ?_
          rotate_left
          · (intro w hSw; (try dsimp only at hSw); go_simp; try with_reducible rfl)
          try simp only [List.getElem_toArray, List.getElem_cons_zero, List.getElem_cons_succ, Act.put, List.setIfInBounds_toArray, List.set_cons_zero, List.set_cons_succ]
          refine HeldBut.take (i := 2) (v := ?_) rfl (by kernel_rfl) (by kernel_rfl) (by kernel_rfl) (by kernel_rfl) (fun _ _ _ h => h) (Or.inl ⟨by rfl, ?_⟩) (by assumption) ?_
          rotate_left
          · (intro w hSw; (try dsimp only at hSw); go_simp; try with_reducible rfl)
          try simp only [List.getElem_toArray, List.getElem_cons_zero, List.getElem_cons_succ, Act.put, List.setIfInBounds_toArray, List.set_cons_zero, List.set_cons_succ]
          refine HeldBut.take (i := 3) (v := ?_) rfl (by kernel_rfl) (by kernel_rfl) (by kernel_rfl) (by kernel_rfl) (fun _ _ _ h => h) (Or.inl ⟨by rfl, ?_⟩) (by assumption) ?_
          rotate_left
          · (intro w hSw; (try dsimp only at hSw); go_simp; try with_reducible rfl)
          try simp only [List.getElem_toArray, List.getElem_cons_zero, List.getElem_cons_succ, Act.put, List.setIfInBounds_toArray, List.set_cons_zero, List.set_cons_succ]
          refine HeldBut.take (i := 4) (v := ?_) rfl (by kernel_rfl) (by kernel_rfl) (by kernel_rfl) (by kernel_rfl) (fun _ _ _ h => h) (Or.inl ⟨by rfl, ?_⟩) (by assumption) ?_
          rotate_left
          · (intro w hSw; (try dsimp only at hSw); go_simp; try with_reducible rfl)
          try simp only [List.getElem_toArray, List.getElem_cons_zero, List.getElem_cons_succ, Act.put, List.setIfInBounds_toArray, List.set_cons_zero, List.set_cons_succ]
          refine HeldBut.take (i := 5) (v := ?_) rfl (by kernel_rfl) (by kernel_rfl) (by kernel_rfl) (by kernel_rfl) (fun _ _ _ h => h) (Or.inl ⟨by rfl, ?_⟩) (by assumption) ?_
          rotate_left
          · (intro w hSw; (try dsimp only at hSw); go_simp; try with_reducible rfl)
          try simp only [List.getElem_toArray, List.getElem_cons_zero, List.getElem_cons_succ, Act.put, List.setIfInBounds_toArray, List.set_cons_zero, List.set_cons_succ]
          refine HeldBut.take (i := 6) (v := ?_) rfl (by kernel_rfl) (by kernel_rfl) (by kernel_rfl) (by kernel_rfl) (fun _ _ _ h => h) (Or.inl ⟨by rfl, ?_⟩) (by assumption) ?_
          rotate_left
          · (intro w hSw; (try dsimp only at hSw); go_simp; try with_reducible rfl)
          try simp only [List.getElem_toArray, List.getElem_cons_zero, List.getElem_cons_succ, Act.put, List.setIfInBounds_toArray, List.set_cons_zero, List.set_cons_succ]
          refine HeldBut.take (i := 7) (v := ?_) rfl (by kernel_rfl) (by kernel_rfl) (by kernel_rfl) (by kernel_rfl) (fun _ _ _ h => h) (Or.inl ⟨by rfl, ?_⟩) (by assumption) ?_
          rotate_left
          · (intro w hSw; (try dsimp only at hSw); go_simp; try with_reducible rfl)
          try simp only [List.getElem_toArray, List.getElem_cons_zero, List.getElem_cons_succ, Act.put, List.setIfInBounds_toArray, List.set_cons_zero, List.set_cons_succ]
          refine HeldBut.take (i := 9) (v := ?_) rfl (by kernel_rfl) (by kernel_rfl) (by kernel_rfl) (by kernel_rfl) (fun _ _ _ h => h) (Or.inl ⟨by rfl, ?_⟩) (by assumption) ?_
          rotate_left
          · (intro w hSw; (try dsimp only at hSw); go_simp; try with_reducible rfl)
          try simp only [List.getElem_toArray, List.getElem_cons_zero, List.getElem_cons_succ, Act.put, List.setIfInBounds_toArray, List.set_cons_zero, List.set_cons_succ]
          refine HeldBut.take (i := 10) (v := ?_) rfl (by kernel_rfl) (by kernel_rfl) (by kernel_rfl) (by kernel_rfl) (fun _ _ _ h => h) (Or.inl ⟨by rfl, ?_⟩) (by assumption) ?_
          rotate_left
          · (intro w hSw; (try dsimp only at hSw); go_simp; try with_reducible rfl)
          try simp only [List.getElem_toArray, List.getElem_cons_zero, List.getElem_cons_succ, Act.put, List.setIfInBounds_toArray, List.set_cons_zero, List.set_cons_succ]
          refine HeldBut.take (i := 11) (v := ?_) rfl (by kernel_rfl) (by kernel_rfl) (by kernel_rfl) (by kernel_rfl) (fun _ _ _ h => h) (Or.inl ⟨by rfl, ?_⟩) (by assumption) ?_
          rotate_left
          · (intro w hSw; (try dsimp only at hSw); go_simp; try with_reducible rfl)
          try simp only [List.getElem_toArray, List.getElem_cons_zero, List.getElem_cons_succ, Act.put, List.setIfInBounds_toArray, List.set_cons_zero, List.set_cons_succ]
          refine HeldBut.take (i := 12) (v := ?_) rfl (by kernel_rfl) (by kernel_rfl) (by kernel_rfl) (by kernel_rfl) (fun _ _ _ h => h) (Or.inl ⟨by rfl, ?_⟩) (by assumption) ?_
          rotate_left
          · (intro w hSw; (try dsimp only at hSw); go_simp; try with_reducible rfl)
          try simp only [List.getElem_toArray, List.getElem_cons_zero, List.getElem_cons_succ, Act.put, List.setIfInBounds_toArray, List.set_cons_zero, List.set_cons_succ]
          refine HeldBut.take (i := 15) (v := ?_) rfl (by kernel_rfl) (by kernel_rfl) (by kernel_rfl) (by kernel_rfl) (fun _ _ _ h => h) (Or.inl ⟨by rfl, ?_⟩) (by assumption) ?_
          rotate_left
          · (intro w hSw; (try dsimp only at hSw); go_simp; try with_reducible rfl)
          try simp only [List.getElem_toArray, List.getElem_cons_zero, List.getElem_cons_succ, Act.put, List.setIfInBounds_toArray, List.set_cons_zero, List.set_cons_succ]
          refine HeldBut.take (i := 16) (v := ?_) rfl (by kernel_rfl) (by kernel_rfl) (by kernel_rfl) (by kernel_rfl) (fun _ _ _ h => h) (Or.inl ⟨by rfl, ?_⟩) (by assumption) ?_
          rotate_left
          · (intro w hSw; (try dsimp only at hSw); go_simp; try with_reducible rfl)
          try simp only [List.getElem_toArray, List.getElem_cons_zero, List.getElem_cons_succ, Act.put, List.setIfInBounds_toArray, List.set_cons_zero, List.set_cons_succ]
          refine HeldBut.take (i := 17) (v := ?_) rfl (by kernel_rfl) (by kernel_rfl) (by kernel_rfl) (by kernel_rfl) (fun _ _ _ h => h) (Or.inl ⟨by rfl, ?_⟩) (by assumption) ?_
          rotate_left
          · (intro w hSw; (try dsimp only at hSw); go_simp; try with_reducible rfl)
          try simp only [List.getElem_toArray, List.getElem_cons_zero, List.getElem_cons_succ, Act.put, List.setIfInBounds_toArray, List.set_cons_zero, List.set_cons_succ]
          refine HeldBut.take (i := 18) (v := ?_) rfl (by kernel_rfl) (by kernel_rfl) (by kernel_rfl) (by kernel_rfl) (fun _ _ _ h => h) (Or.inl ⟨by rfl, ?_⟩) (by assumption) ?_
          rotate_left
          · (intro w hSw; (try dsimp only at hSw); go_simp; try with_reducible rfl)
          try simp only [List.getElem_toArray, List.getElem_cons_zero, List.getElem_cons_succ, Act.put, List.setIfInBounds_toArray, List.set_cons_zero, List.set_cons_succ]
          refine HeldBut.take (i := 19) (v := ?_) rfl (by kernel_rfl) (by kernel_rfl) (by kernel_rfl) (by kernel_rfl) (fun _ _ _ h => h) (Or.inl ⟨by rfl, ?_⟩) (by assumption) ?_
          rotate_left
          · (intro w hSw; (try dsimp only at hSw); go_simp; try with_reducible rfl)
          try simp only [List.getElem_toArray, List.getElem_cons_zero, List.getElem_cons_succ, Act.put, List.setIfInBounds_toArray, List.set_cons_zero, List.set_cons_succ]
          refine HeldBut.take (i := 20) (v := ?_) rfl (by kernel_rfl) (by kernel_rfl) (by kernel_rfl) (by kernel_rfl) (fun _ _ _ h => h) (Or.inl ⟨by rfl, ?_⟩) (by assumption) ?_
          rotate_left
          · (intro w hSw; (try dsimp only at hSw); go_simp; try with_reducible rfl)
          try simp only [List.getElem_toArray, List.getElem_cons_zero, List.getElem_cons_succ, Act.put, List.setIfInBounds_toArray, List.set_cons_zero, List.set_cons_succ]
          refine HeldBut.ready (rs := [1, 13]) (by kernel_rfl) (by simp) ?_
          refine AllBut.cons (o := _) rfl (fun K hK => ?_) (AllBut.cons (o := _) rfl (fun K hK => ?_) AllBut.nil)
          · go_simp
            clear hHeld
            have hHeld := KS.out _ ((below1 w (.cells #[] 37)).drew)
            refine hK.out _ _ (.inr hHeld) ?_
            clear hK K
            try simp only [List.getElem_toArray, List.getElem_cons_zero, List.getElem_cons_succ, Act.put, List.setIfInBounds_toArray, List.set_cons_zero, List.set_cons_succ]
            refine HeldBut.ready (rs := [8, 13]) (by kernel_rfl) (by simp) ?_
            refine AllBut.cons (o := _) rfl (fun K hK => ?_) (AllBut.cons (o := _) rfl (fun K hK => ?_) AllBut.nil)
            · refine wp_app w.heap.size _ _ rfl (.slice (some ⟨w.heap.size, 0, none⟩) 0 0) _ rfl rfl 0 [] (L.take k) (empty_row w w.heap.size (Nat.le_refl _)) (SRC1.out _ ((below1 w (.cells #[] 37)).drew)) (by have := HTL.out; omega) (by first | (simp; done) | (simp; omega) | omega) ?_
              intro v1 V1 o1 g1
              rw [show 0 + (L.take k).length = k by have := HTL.out; omega] at o1
              have bV1 : Below w.heap.size w V1 := Below.grown ((below1 w (.cells #[] 37)).drew) g1 (by first | (simp; done) | (simp; omega) | omega) (fun j hj => (World.ownsRow.lt (empty_row w w.heap.size (Nat.le_refl _)) j hj).1)
              obtain ⟨a1, q1, rfl⟩ := own_slice3 o1
              clear hHeld
              have hHeld := KS.out _ (bV1)
              refine hK.out _ _ (.inr hHeld) ?_
              clear hK K
              try simp only [List.getElem_toArray, List.getElem_cons_zero, List.getElem_cons_succ, Act.put, List.setIfInBounds_toArray, List.set_cons_zero, List.set_cons_succ]
              refine HeldBut.ready (rs := [13]) (by kernel_rfl) (by simp) ?_
              refine AllBut.cons (o := _) rfl (fun K hK => ?_) AllBut.nil
              go_simp
              clear hHeld
              have hHeld := KS.out _ (bV1.alloc bV1.size (.cells #[.int .u32 p.toNat, .int .i64 m, .int .i64 v] 37))
              refine hK.out _ _ (.inr hHeld) ?_
              clear hK K
              try simp only [List.getElem_toArray, List.getElem_cons_zero, List.getElem_cons_succ, Act.put, List.setIfInBounds_toArray, List.set_cons_zero, List.set_cons_succ]
              refine HeldBut.ready (rs := [14]) (by kernel_rfl) (by simp) ?_
              refine AllBut.cons (o := _) rfl (fun K hK => ?_) AllBut.nil
              refine wp_app w.heap.size _ _ rfl (.slice a1 k q1) _ rfl rfl _ _ [(p, m, v)] (World.ownsRow.alloc o1 (.cells #[.int .u32 p.toNat, .int .i64 m, .int .i64 v] 37)) (Or.inr ⟨⟨V1.heap.size, 0, none⟩, 1, rfl, cells_new3 V1 _ _ _ _⟩) (by have := HTL.out; first | omega | (simp only [List.length_cons, List.length_nil]; omega)) (by have := bV1.size; first | omega | (simp; omega)) ?_
              intro v2 V2 o2 g2
              rw [show k + [(p, m, v)].length = k + 1 from rfl] at o2
              have bV2 : Below w.heap.size w V2 := Below.grown (bV1.alloc bV1.size (.cells #[.int .u32 p.toNat, .int .i64 m, .int .i64 v] 37)) g2 (by have := bV1.size; first | omega | (simp; omega)) (fun j hj => (World.ownsRow.lt (World.ownsRow.alloc o1 (.cells #[.int .u32 p.toNat, .int .i64 m, .int .i64 v] 37)) j hj).1)
              obtain ⟨a2, q2, rfl⟩ := own_slice3 o2
              clear hHeld
              have hHeld := KS.out _ (bV2)
              refine hK.out _ _ (.inr hHeld) ?_
              clear hK K
              try simp only [List.getElem_toArray, List.getElem_cons_zero, List.getElem_cons_succ, Act.put, List.setIfInBounds_toArray, List.set_cons_zero, List.set_cons_succ]
              refine HeldBut.ready (rs := [21]) (by kernel_rfl) (by simp) ?_
              refine AllBut.cons (o := _) rfl (fun K hK => ?_) AllBut.nil
              refine wp_app w.heap.size _ _ rfl (.slice a2 (k + 1) q2) _ rfl rfl _ _ (L.drop k) o2 (SRC3.out _ bV2) (by have := HTL.out; first | omega | (simp only [List.length_cons, List.length_nil]; omega)) (by have := bV2.size; omega) ?_
              intro v3 V3 o3 g3
              rw [show k + 1 + (L.drop k).length = L.length + 1 by have := HTL.out; omega] at o3
              have bV3 : Below w.heap.size w V3 := Below.grown bV2 g3 (by have := bV2.size; omega) (fun j hj => (World.ownsRow.lt o2 j hj).1)
              obtain ⟨a3, q3, rfl⟩ := own_slice3 o3
              clear hHeld
              have hHeld := KS.out _ (bV3)
              refine hK.out _ _ (.inr hHeld) ?_
              clear hK K
              try simp only [List.getElem_toArray, List.getElem_cons_zero, List.getElem_cons_succ, Act.put, List.setIfInBounds_toArray, List.set_cons_zero, List.set_cons_succ]
              refine HeldBut.ready (rs := [22]) (by kernel_rfl) (by simp) ?_
              refine AllBut.cons (o := _) rfl (fun K hK => ?_) AllBut.nil
              go_simp
              clear hHeld
              have hHeld := KS.out _ (bV3)
              refine hK.out _ _ (.inr hHeld) ?_
              clear hK K
              try simp only [List.getElem_toArray, List.getElem_cons_zero, List.getElem_cons_succ, Act.put, List.setIfInBounds_toArray, List.set_cons_zero, List.set_cons_succ]
              refine HeldBut.take (i := 23) (v := ?_) rfl (by kernel_rfl) (by kernel_rfl) (by kernel_rfl) (by kernel_rfl) (fun _ _ _ h => h) (Or.inl ⟨by rfl, ?_⟩) (by assumption) ?_
              rotate_left
              · (intro w hSw; (try dsimp only at hSw); go_simp; try with_reducible rfl)
              try simp only [List.getElem_toArray, List.getElem_cons_zero, List.getElem_cons_succ, Act.put, List.setIfInBounds_toArray, List.set_cons_zero, List.set_cons_succ]
              refine HeldBut.ready (rs := [24]) (by kernel_rfl) (by simp) ?_
              refine AllBut.cons (o := _) rfl (fun K hK => ?_) AllBut.nil
              have rx : V3.heap[xb]? = _ := (bV3.block xb hxl).trans HL.out.blk
              have cx3 : V3.cell? ⟨xb, 0, none⟩ = _ := cell_row rx 0
              have fx3 := frozen_of_row V3 _ 0 _ _ rx
              have FIN : Hid _ := o3
              clear hHeld o3
              go_simp
              refine hK.out _ _ (.inl rfl) ?_
              refine HeldBut.done (by kernel_rfl) ?_ _
              clear hK K
              go_wp2
              go_ret
              refine ⟨rfl, a3, q3, ⟨?_, ⟨?_⟩, HL.out.lo, HLL.out⟩, (Keeps.of_below [xb] bV3).trans (Keeps.setCell _ xb _ _) (by simp)⟩
              · refine (row_setCell rx 0 _).trans ?_
                rw [len_ins]
                rfl
              · have := FIN.out
                rw [len_ins]; have h9 := own_lower hBw (new_row (u := .slice a3 (L.length + 1) q3) HK.out rx this); rw [len_ins] at h9; exact h9
            · go_simp
              clear hHeld
              have hHeld := KS.out _ ((below2 w (.cells #[] 37) (.cells #[.int .u32 p.toNat, .int .i64 m, .int .i64 v] 37)).drew)
              refine hK.out _ _ (.inr hHeld) ?_
              clear hK K
              try simp only [List.getElem_toArray, List.getElem_cons_zero, List.getElem_cons_succ, Act.put, List.setIfInBounds_toArray, List.set_cons_zero, List.set_cons_succ]
              refine HeldBut.ready (rs := [8]) (by kernel_rfl) (by simp) ?_
              refine AllBut.cons (o := _) rfl (fun K hK => ?_) AllBut.nil
              refine wp_app w.heap.size _ _ rfl (.slice (some ⟨w.heap.size, 0, none⟩) 0 0) _ rfl rfl 0 [] (L.take k) (World.ownsRow.alloc (empty_row w w.heap.size (Nat.le_refl _)) (.cells #[.int .u32 p.toNat, .int .i64 m, .int .i64 v] 37)) (SRC1.out _ ((below2 w (.cells #[] 37) (.cells #[.int .u32 p.toNat, .int .i64 m, .int .i64 v] 37)).drew)) (by have := HTL.out; omega) (by first | (simp; done) | (simp; omega) | omega) ?_
              intro v1 V1 o1 g1
              rw [show 0 + (L.take k).length = k by have := HTL.out; omega] at o1
              have bV1 : Below w.heap.size w V1 := Below.grown ((below2 w (.cells #[] 37) (.cells #[.int .u32 p.toNat, .int .i64 m, .int .i64 v] 37)).drew) g1 (by first | (simp; done) | (simp; omega) | omega) (fun j hj => (World.ownsRow.lt (World.ownsRow.alloc (empty_row w w.heap.size (Nat.le_refl _)) (.cells #[.int .u32 p.toNat, .int .i64 m, .int .i64 v] 37)) j hj).1)
              have xc : ∀ j u, (roV [(p, m, v)])[j]? = some u → V1.cell? ((⟨w.heap.size + 1, 0, none⟩ : Addr).add j) = some u := fun j u hu => g1.cell (by have := cells_new3 (w.alloc (.cells #[] 37)) (.int .u32 p.toNat) (.int .i64 m) (.int .i64 v) 37 j u hu; simpa using this) (by simp [Value.ownBlock, plain_add3])
              obtain ⟨a1, q1, rfl⟩ := own_slice3 o1
              clear hHeld
              have hHeld := KS.out _ (bV1)
              refine hK.out _ _ (.inr hHeld) ?_
              clear hK K
              try simp only [List.getElem_toArray, List.getElem_cons_zero, List.getElem_cons_succ, Act.put, List.setIfInBounds_toArray, List.set_cons_zero, List.set_cons_succ]
              refine HeldBut.ready (rs := [14]) (by kernel_rfl) (by simp) ?_
              refine AllBut.cons (o := _) rfl (fun K hK => ?_) AllBut.nil
              refine wp_app w.heap.size _ _ rfl (.slice a1 k q1) _ rfl rfl _ _ [(p, m, v)] (o1) (Or.inr ⟨⟨w.heap.size + 1, 0, none⟩, 1, rfl, xc⟩) (by have := HTL.out; first | omega | (simp only [List.length_cons, List.length_nil]; omega)) (by have := bV1.size; first | omega | (simp; omega)) ?_
              intro v2 V2 o2 g2
              rw [show k + [(p, m, v)].length = k + 1 from rfl] at o2
              have bV2 : Below w.heap.size w V2 := Below.grown (bV1) g2 (by have := bV1.size; first | omega | (simp; omega)) (fun j hj => (World.ownsRow.lt (o1) j hj).1)
              obtain ⟨a2, q2, rfl⟩ := own_slice3 o2
              clear hHeld
              have hHeld := KS.out _ (bV2)
              refine hK.out _ _ (.inr hHeld) ?_
              clear hK K
              try simp only [List.getElem_toArray, List.getElem_cons_zero, List.getElem_cons_succ, Act.put, List.setIfInBounds_toArray, List.set_cons_zero, List.set_cons_succ]
              refine HeldBut.ready (rs := [21]) (by kernel_rfl) (by simp) ?_
              refine AllBut.cons (o := _) rfl (fun K hK => ?_) AllBut.nil
              refine wp_app w.heap.size _ _ rfl (.slice a2 (k + 1) q2) _ rfl rfl _ _ (L.drop k) o2 (SRC3.out _ bV2) (by have := HTL.out; first | omega | (simp only [List.length_cons, List.length_nil]; omega)) (by have := bV2.size; omega) ?_
              intro v3 V3 o3 g3
              rw [show k + 1 + (L.drop k).length = L.length + 1 by have := HTL.out; omega] at o3
              have bV3 : Below w.heap.size w V3 := Below.grown bV2 g3 (by have := bV2.size; omega) (fun j hj => (World.ownsRow.lt o2 j hj).1)
              obtain ⟨a3, q3, rfl⟩ := own_slice3 o3
              clear hHeld
              have hHeld := KS.out _ (bV3)
              refine hK.out _ _ (.inr hHeld) ?_
              clear hK K
              try simp only [List.getElem_toArray, List.getElem_cons_zero, List.getElem_cons_succ, Act.put, List.setIfInBounds_toArray, List.set_cons_zero, List.set_cons_succ]
              refine HeldBut.ready (rs := [22]) (by kernel_rfl) (by simp) ?_
              refine AllBut.cons (o := _) rfl (fun K hK => ?_) AllBut.nil
              go_simp
              clear hHeld
              have hHeld := KS.out _ (bV3)
              refine hK.out _ _ (.inr hHeld) ?_
              clear hK K
              try simp only [List.getElem_toArray, List.getElem_cons_zero, List.getElem_cons_succ, Act.put, List.setIfInBounds_toArray, List.set_cons_zero, List.set_cons_succ]
              refine HeldBut.take (i := 23) (v := ?_) rfl (by kernel_rfl) (by kernel_rfl) (by kernel_rfl) (by kernel_rfl) (fun _ _ _ h => h) (Or.inl ⟨by rfl, ?_⟩) (by assumption) ?_
              rotate_left
              · (intro w hSw; (try dsimp only at hSw); go_simp; try with_reducible rfl)
              try simp only [List.getElem_toArray, List.getElem_cons_zero, List.getElem_cons_succ, Act.put, List.setIfInBounds_toArray, List.set_cons_zero, List.set_cons_succ]
              refine HeldBut.ready (rs := [24]) (by kernel_rfl) (by simp) ?_
              refine AllBut.cons (o := _) rfl (fun K hK => ?_) AllBut.nil
              have rx : V3.heap[xb]? = _ := (bV3.block xb hxl).trans HL.out.blk
              have cx3 : V3.cell? ⟨xb, 0, none⟩ = _ := cell_row rx 0
              have fx3 := frozen_of_row V3 _ 0 _ _ rx
              have FIN : Hid _ := o3
              clear hHeld o3
              go_simp
              refine hK.out _ _ (.inl rfl) ?_
              refine HeldBut.done (by kernel_rfl) ?_ _
              clear hK K
              go_wp2
              go_ret
              refine ⟨rfl, a3, q3, ⟨?_, ⟨?_⟩, HL.out.lo, HLL.out⟩, (Keeps.of_below [xb] bV3).trans (Keeps.setCell _ xb _ _) (by simp)⟩
              · refine (row_setCell rx 0 _).trans ?_
                rw [len_ins]
                rfl
              · have := FIN.out
                rw [len_ins]; have h9 := own_lower hBw (new_row (u := .slice a3 (L.length + 1) q3) HK.out rx this); rw [len_ins] at h9; exact h9
          · go_simp
            clear hHeld
            have hHeld := KS.out _ ((below1 w (.cells #[.int .u32 p.toNat, .int .i64 m, .int .i64 v] 37)).drew)
            refine hK.out _ _ (.inr hHeld) ?_
            clear hK K
            try simp only [List.getElem_toArray, List.getElem_cons_zero, List.getElem_cons_succ, Act.put, List.setIfInBounds_toArray, List.set_cons_zero, List.set_cons_succ]
            refine HeldBut.ready (rs := [1]) (by kernel_rfl) (by simp) ?_
            refine AllBut.cons (o := _) rfl (fun K hK => ?_) AllBut.nil
            go_simp
            clear hHeld
            have hHeld := KS.out _ ((below2 w (.cells #[.int .u32 p.toNat, .int .i64 m, .int .i64 v] 37) (.cells #[] 37)).drew)
            refine hK.out _ _ (.inr hHeld) ?_
            clear hK K
            try simp only [List.getElem_toArray, List.getElem_cons_zero, List.getElem_cons_succ, Act.put, List.setIfInBounds_toArray, List.set_cons_zero, List.set_cons_succ]
            refine HeldBut.ready (rs := [8]) (by kernel_rfl) (by simp) ?_
            refine AllBut.cons (o := _) rfl (fun K hK => ?_) AllBut.nil
            refine wp_app w.heap.size _ _ rfl (.slice (some ⟨w.heap.size + 1, 0, none⟩) 0 0) _ rfl rfl 0 [] (L.take k) (empty_rowE (w.alloc (.cells #[.int .u32 p.toNat, .int .i64 m, .int .i64 v] 37)) w.heap.size (w.heap.size + 1) (by simp) (by simp)) (SRC1.out _ ((below2 w (.cells #[.int .u32 p.toNat, .int .i64 m, .int .i64 v] 37) (.cells #[] 37)).drew)) (by have := HTL.out; omega) (by first | (simp; done) | (simp; omega) | omega) ?_
            intro v1 V1 o1 g1
            rw [show 0 + (L.take k).length = k by have := HTL.out; omega] at o1
            have bV1 : Below w.heap.size w V1 := Below.grown ((below2 w (.cells #[.int .u32 p.toNat, .int .i64 m, .int .i64 v] 37) (.cells #[] 37)).drew) g1 (by first | (simp; done) | (simp; omega) | omega) (fun j hj => (World.ownsRow.lt (empty_rowE (w.alloc (.cells #[.int .u32 p.toNat, .int .i64 m, .int .i64 v] 37)) w.heap.size (w.heap.size + 1) (by simp) (by simp)) j hj).1)
            have xc : ∀ j u, (roV [(p, m, v)])[j]? = some u → V1.cell? ((⟨w.heap.size, 0, none⟩ : Addr).add j) = some u := fun j u hu => g1.cell (by have := cells_new3 w (.int .u32 p.toNat) (.int .i64 m) (.int .i64 v) 37 j u hu; rw [plain_add3] at this ⊢; exact ((below1 (w.alloc (.cells #[.int .u32 p.toNat, .int .i64 m, .int .i64 v] 37)) (.cells #[] 37)).cell (p := ⟨w.heap.size, 0 + j, none⟩) (by simp)).trans this) (by simp [Value.ownBlock, plain_add3])
            obtain ⟨a1, q1, rfl⟩ := own_slice3 o1
            clear hHeld
            have hHeld := KS.out _ (bV1)
            refine hK.out _ _ (.inr hHeld) ?_
            clear hK K
            try simp only [List.getElem_toArray, List.getElem_cons_zero, List.getElem_cons_succ, Act.put, List.setIfInBounds_toArray, List.set_cons_zero, List.set_cons_succ]
            refine HeldBut.ready (rs := [14]) (by kernel_rfl) (by simp) ?_
            refine AllBut.cons (o := _) rfl (fun K hK => ?_) AllBut.nil
            refine wp_app w.heap.size _ _ rfl (.slice a1 k q1) _ rfl rfl _ _ [(p, m, v)] (o1) (Or.inr ⟨⟨w.heap.size, 0, none⟩, 1, rfl, xc⟩) (by have := HTL.out; first | omega | (simp only [List.length_cons, List.length_nil]; omega)) (by have := bV1.size; first | omega | (simp; omega)) ?_
            intro v2 V2 o2 g2
            rw [show k + [(p, m, v)].length = k + 1 from rfl] at o2
            have bV2 : Below w.heap.size w V2 := Below.grown (bV1) g2 (by have := bV1.size; first | omega | (simp; omega)) (fun j hj => (World.ownsRow.lt (o1) j hj).1)
            obtain ⟨a2, q2, rfl⟩ := own_slice3 o2
            clear hHeld
            have hHeld := KS.out _ (bV2)
            refine hK.out _ _ (.inr hHeld) ?_
            clear hK K
            try simp only [List.getElem_toArray, List.getElem_cons_zero, List.getElem_cons_succ, Act.put, List.setIfInBounds_toArray, List.set_cons_zero, List.set_cons_succ]
            refine HeldBut.ready (rs := [21]) (by kernel_rfl) (by simp) ?_
            refine AllBut.cons (o := _) rfl (fun K hK => ?_) AllBut.nil
            refine wp_app w.heap.size _ _ rfl (.slice a2 (k + 1) q2) _ rfl rfl _ _ (L.drop k) o2 (SRC3.out _ bV2) (by have := HTL.out; first | omega | (simp only [List.length_cons, List.length_nil]; omega)) (by have := bV2.size; omega) ?_
            intro v3 V3 o3 g3
            rw [show k + 1 + (L.drop k).length = L.length + 1 by have := HTL.out; omega] at o3
            have bV3 : Below w.heap.size w V3 := Below.grown bV2 g3 (by have := bV2.size; omega) (fun j hj => (World.ownsRow.lt o2 j hj).1)
            obtain ⟨a3, q3, rfl⟩ := own_slice3 o3
            clear hHeld
            have hHeld := KS.out _ (bV3)
            refine hK.out _ _ (.inr hHeld) ?_
            clear hK K
            try simp only [List.getElem_toArray, List.getElem_cons_zero, List.getElem_cons_succ, Act.put, List.setIfInBounds_toArray, List.set_cons_zero, List.set_cons_succ]
            refine HeldBut.ready (rs := [22]) (by kernel_rfl) (by simp) ?_
            refine AllBut.cons (o := _) rfl (fun K hK => ?_) AllBut.nil
            go_simp
            clear hHeld
            have hHeld := KS.out _ (bV3)
            refine hK.out _ _ (.inr hHeld) ?_
            clear hK K
            try simp only [List.getElem_toArray, List.getElem_cons_zero, List.getElem_cons_succ, Act.put, List.setIfInBounds_toArray, List.set_cons_zero, List.set_cons_succ]
            refine HeldBut.take (i := 23) (v := ?_) rfl (by kernel_rfl) (by kernel_rfl) (by kernel_rfl) (by kernel_rfl) (fun _ _ _ h => h) (Or.inl ⟨by rfl, ?_⟩) (by assumption) ?_
            rotate_left
            · (intro w hSw; (try dsimp only at hSw); go_simp; try with_reducible rfl)
            try simp only [List.getElem_toArray, List.getElem_cons_zero, List.getElem_cons_succ, Act.put, List.setIfInBounds_toArray, List.set_cons_zero, List.set_cons_succ]
            refine HeldBut.ready (rs := [24]) (by kernel_rfl) (by simp) ?_
            refine AllBut.cons (o := _) rfl (fun K hK => ?_) AllBut.nil
            have rx : V3.heap[xb]? = _ := (bV3.block xb hxl).trans HL.out.blk
            have cx3 : V3.cell? ⟨xb, 0, none⟩ = _ := cell_row rx 0
            have fx3 := frozen_of_row V3 _ 0 _ _ rx
            have FIN : Hid _ := o3
            clear hHeld o3
            go_simp
            refine hK.out _ _ (.inl rfl) ?_
            refine HeldBut.done (by kernel_rfl) ?_ _
            clear hK K
            go_wp2
            go_ret
            refine ⟨rfl, a3, q3, ⟨?_, ⟨?_⟩, HL.out.lo, HLL.out⟩, (Keeps.of_below [xb] bV3).trans (Keeps.setCell _ xb _ _) (by simp)⟩
            · refine (row_setCell rx 0 _).trans ?_
              rw [len_ins]
              rfl
            · have := FIN.out
              rw [len_ins]; have h9 := own_lower hBw (new_row (u := .slice a3 (L.length + 1) q3) HK.out rx this); rw [len_ins] at h9; exact h9
      · have hkk : k = L.length := by omega
        have hnl : ¬ (k : Int) < (L.length : Int) := by omega
        clear hlt hkl
        rcases HL.out.own.h.2 with ⟨e, e0⟩ | ⟨g, cap, cur, e, _, _, h3, _⟩
        · injection e with e1 e2 e3
          have hL : L = [] := List.eq_nil_of_length_eq_zero e0
          subst hL
          have hk0 : k = 0 := by simpa using hkk
          subst hk0
          subst e1 e3
          simp only [List.length_nil] at *
          have KS : Hid (∀ V, Below w.heap.size w V → V.cell? ⟨xb, 0, none⟩ = some (.slice none 0 0) ∧ Below w.heap.size w V) := fun V hV => ⟨(hV.cell (p := ⟨xb, 0, none⟩) hxl).trans cx, hV⟩
          have HTL : Hid ((List.take 0 ([] : List Ro)).length + (List.drop 0 ([] : List Ro)).length ≤ 274877906944 ∧ (List.take 0 ([] : List Ro)).length = 0 ∧ (List.drop 0 ([] : List Ro)).length = ([] : List Ro).length - 0) := (by simp : (List.take 0 ([] : List Ro)).length + (List.drop 0 ([] : List Ro)).length ≤ 274877906944 ∧ (List.take 0 ([] : List Ro)).length = 0 ∧ (List.drop 0 ([] : List Ro)).length = ([] : List Ro).length - 0)
          have SRC1 : Hid (∀ V, Below w.heap.size w V → Src V (.slice none 0 0) (List.take 0 ([] : List Ro))) := fun V hV => .inl ⟨rfl, rfl⟩
          have SRC3 : Hid (∀ V, Below w.heap.size w V → Src V (.slice none 0 0) (List.drop 0 ([] : List Ro))) := fun V hV => .inl ⟨rfl, rfl⟩
          go_wp2
          have hHeld : w.drew.cell? ⟨xb, 0, none⟩ = some (.slice none 0 0) ∧ Below w.heap.size w w.drew := ⟨cx, (Below.refl _ _).drew⟩
          refine region_but (fun V => V.cell? ⟨xb, 0, none⟩ = some (.slice none 0 0) ∧ Below w.heap.size w V) 24 (by kernel_rfl) ?_
          refine HeldBut.take (i := 0) (v := ?_) rfl (by kernel_rfl) (by kernel_rfl) (by kernel_rfl) (by kernel_rfl) (fun _ _ _ h => h) (Or.inl ⟨by rfl, ?_⟩) (by assumption) ?_
          rotate_left
          · (intro w hSw; (try dsimp only at hSw); go_simp; try with_reducible rfl)
          try simp only [List.getElem_toArray, List.getElem_cons_zero, List.getElem_cons_succ, Act.put, List.setIfInBounds_toArray, List.set_cons_zero, List.set_cons_succ]
          refine HeldBut.take (i := 2) (v := ?_) rfl (by kernel_rfl) (by kernel_rfl) (by kernel_rfl) (by kernel_rfl) (fun _ _ _ h => h) (Or.inl ⟨by rfl, ?_⟩) (by assumption) ?_
          rotate_left
          · (intro w hSw; (try dsimp only at hSw); go_simp; try with_reducible rfl)
          try simp only [List.getElem_toArray, List.getElem_cons_zero, List.getElem_cons_succ, Act.put, List.setIfInBounds_toArray, List.set_cons_zero, List.set_cons_succ]
          refine HeldBut.take (i := 3) (v := ?_) rfl (by kernel_rfl) (by kernel_rfl) (by kernel_rfl) (by kernel_rfl) (fun _ _ _ h => h) (Or.inl ⟨by rfl, ?_⟩) (by assumption) ?_
          rotate_left
          · (intro w hSw; (try dsimp only at hSw); go_simp; try with_reducible rfl)
          try simp only [List.getElem_toArray, List.getElem_cons_zero, List.getElem_cons_succ, Act.put, List.setIfInBounds_toArray, List.set_cons_zero, List.set_cons_succ]
          refine HeldBut.take (i := 4) (v := ?_) rfl (by kernel_rfl) (by kernel_rfl) (by kernel_rfl) (by kernel_rfl) (fun _ _ _ h => h) (Or.inl ⟨by rfl, ?_⟩) (by assumption) ?_
          rotate_left
          · (intro w hSw; (try dsimp only at hSw); go_simp; try with_reducible rfl)
          try simp only [List.getElem_toArray, List.getElem_cons_zero, List.getElem_cons_succ, Act.put, List.setIfInBounds_toArray, List.set_cons_zero, List.set_cons_succ]
          refine HeldBut.take (i := 5) (v := ?_) rfl (by kernel_rfl) (by kernel_rfl) (by kernel_rfl) (by kernel_rfl) (fun _ _ _ h => h) (Or.inl ⟨by rfl, ?_⟩) (by assumption) ?_
          rotate_left
          · (intro w hSw; (try dsimp only at hSw); go_simp; try with_reducible rfl)
          try simp only [List.getElem_toArray, List.getElem_cons_zero, List.getElem_cons_succ, Act.put, List.setIfInBounds_toArray, List.set_cons_zero, List.set_cons_succ]
          refine HeldBut.take (i := 6) (v := ?_) rfl (by kernel_rfl) (by kernel_rfl) (by kernel_rfl) (by kernel_rfl) (fun _ _ _ h => h) (Or.inl ⟨by rfl, ?_⟩) (by assumption) ?_
          rotate_left
          · (intro w hSw; (try dsimp only at hSw); go_simp; try with_reducible rfl)
          try simp only [List.getElem_toArray, List.getElem_cons_zero, List.getElem_cons_succ, Act.put, List.setIfInBounds_toArray, List.set_cons_zero, List.set_cons_succ]
          refine HeldBut.take (i := 7) (v := ?_) rfl (by kernel_rfl) (by kernel_rfl) (by kernel_rfl) (by kernel_rfl) (fun _ _ _ h => h) (Or.inl ⟨by rfl, ?_⟩) (by assumption) ?_
          rotate_left
          · (intro w hSw; (try dsimp only at hSw); go_simp; try with_reducible rfl)
          try simp only [List.getElem_toArray, List.getElem_cons_zero, List.getElem_cons_succ, Act.put, List.setIfInBounds_toArray, List.set_cons_zero, List.set_cons_succ]
          refine HeldBut.take (i := 9) (v := ?_) rfl (by kernel_rfl) (by kernel_rfl) (by kernel_rfl) (by kernel_rfl) (fun _ _ _ h => h) (Or.inl ⟨by rfl, ?_⟩) (by assumption) ?_
          rotate_left
          · (intro w hSw; (try dsimp only at hSw); go_simp; try with_reducible rfl)
          try simp only [List.getElem_toArray, List.getElem_cons_zero, List.getElem_cons_succ, Act.put, List.setIfInBounds_toArray, List.set_cons_zero, List.set_cons_succ]
          refine HeldBut.take (i := 10) (v := ?_) rfl (by kernel_rfl) (by kernel_rfl) (by kernel_rfl) (by kernel_rfl) (fun _ _ _ h => h) (Or.inl ⟨by rfl, ?_⟩) (by assumption) ?_
          rotate_left
          · (intro w hSw; (try dsimp only at hSw); go_simp; try with_reducible rfl)
          try simp only [List.getElem_toArray, List.getElem_cons_zero, List.getElem_cons_succ, Act.put, List.setIfInBounds_toArray, List.set_cons_zero, List.set_cons_succ]
          refine HeldBut.take (i := 11) (v := ?_) rfl (by kernel_rfl) (by kernel_rfl) (by kernel_rfl) (by kernel_rfl) (fun _ _ _ h => h) (Or.inl ⟨by rfl, ?_⟩) (by assumption) ?_
          rotate_left
          · (intro w hSw; (try dsimp only at hSw); go_simp; try with_reducible rfl)
          try simp only [List.getElem_toArray, List.getElem_cons_zero, List.getElem_cons_succ, Act.put, List.setIfInBounds_toArray, List.set_cons_zero, List.set_cons_succ]
          refine HeldBut.take (i := 12) (v := ?_) rfl (by kernel_rfl) (by kernel_rfl) (by kernel_rfl) (by kernel_rfl) (fun _ _ _ h => h) (Or.inl ⟨by rfl, ?_⟩) (by assumption) ?_
          rotate_left
          · (intro w hSw; (try dsimp only at hSw); go_simp; try with_reducible rfl)
          try simp only [List.getElem_toArray, List.getElem_cons_zero, List.getElem_cons_succ, Act.put, List.setIfInBounds_toArray, List.set_cons_zero, List.set_cons_succ]
          refine HeldBut.take (i := 15) (v := ?_) rfl (by kernel_rfl) (by kernel_rfl) (by kernel_rfl) (by kernel_rfl) (fun _ _ _ h => h) (Or.inl ⟨by rfl, ?_⟩) (by assumption) ?_
          rotate_left
          · (intro w hSw; (try dsimp only at hSw); go_simp; try with_reducible rfl)
          try simp only [List.getElem_toArray, List.getElem_cons_zero, List.getElem_cons_succ, Act.put, List.setIfInBounds_toArray, List.set_cons_zero, List.set_cons_succ]
          refine HeldBut.take (i := 16) (v := ?_) rfl (by kernel_rfl) (by kernel_rfl) (by kernel_rfl) (by kernel_rfl) (fun _ _ _ h => h) (Or.inl ⟨by rfl, ?_⟩) (by assumption) ?_
          rotate_left
          · (intro w hSw; (try dsimp only at hSw); go_simp; try with_reducible rfl)
          try simp only [List.getElem_toArray, List.getElem_cons_zero, List.getElem_cons_succ, Act.put, List.setIfInBounds_toArray, List.set_cons_zero, List.set_cons_succ]
          refine HeldBut.take (i := 17) (v := ?_) rfl (by kernel_rfl) (by kernel_rfl) (by kernel_rfl) (by kernel_rfl) (fun _ _ _ h => h) (Or.inl ⟨by rfl, ?_⟩) (by assumption) ?_
          rotate_left
          · (intro w hSw; (try dsimp only at hSw); go_simp; try with_reducible rfl)
          try simp only [List.getElem_toArray, List.getElem_cons_zero, List.getElem_cons_succ, Act.put, List.setIfInBounds_toArray, List.set_cons_zero, List.set_cons_succ]
          refine HeldBut.take (i := 18) (v := ?_) rfl (by kernel_rfl) (by kernel_rfl) (by kernel_rfl) (by kernel_rfl) (fun _ _ _ h => h) (Or.inl ⟨by rfl, ?_⟩) (by assumption) ?_
          rotate_left
          · (intro w hSw; (try dsimp only at hSw); go_simp; try with_reducible rfl)
          try simp only [List.getElem_toArray, List.getElem_cons_zero, List.getElem_cons_succ, Act.put, List.setIfInBounds_toArray, List.set_cons_zero, List.set_cons_succ]
          refine HeldBut.take (i := 19) (v := ?_) rfl (by kernel_rfl) (by kernel_rfl) (by kernel_rfl) (by kernel_rfl) (fun _ _ _ h => h) (Or.inl ⟨by rfl, ?_⟩) (by assumption) ?_
          rotate_left
          · (intro w hSw; (try dsimp only at hSw); go_simp; try with_reducible rfl)
          try simp only [List.getElem_toArray, List.getElem_cons_zero, List.getElem_cons_succ, Act.put, List.setIfInBounds_toArray, List.set_cons_zero, List.set_cons_succ]
          refine HeldBut.take (i := 20) (v := ?_) rfl (by kernel_rfl) (by kernel_rfl) (by kernel_rfl) (by kernel_rfl) (fun _ _ _ h => h) (Or.inl ⟨by rfl, ?_⟩) (by assumption) ?_
          rotate_left
          · (intro w hSw; (try dsimp only at hSw); go_simp; try with_reducible rfl)
          try simp only [List.getElem_toArray, List.getElem_cons_zero, List.getElem_cons_succ, Act.put, List.setIfInBounds_toArray, List.set_cons_zero, List.set_cons_succ]
          refine HeldBut.ready (rs := [1, 13]) (by kernel_rfl) (by simp) ?_
          refine AllBut.cons (o := _) rfl (fun K hK => ?_) (AllBut.cons (o := _) rfl (fun K hK => ?_) AllBut.nil)
          · go_simp
            clear hHeld
            have hHeld := KS.out _ ((below1 w (.cells #[] 37)).drew)
            refine hK.out _ _ (.inr hHeld) ?_
            clear hK K
            try simp only [List.getElem_toArray, List.getElem_cons_zero, List.getElem_cons_succ, Act.put, List.setIfInBounds_toArray, List.set_cons_zero, List.set_cons_succ]
            refine HeldBut.ready (rs := [8, 13]) (by kernel_rfl) (by simp) ?_
            refine AllBut.cons (o := _) rfl (fun K hK => ?_) (AllBut.cons (o := _) rfl (fun K hK => ?_) AllBut.nil)
            · refine wp_app w.heap.size _ _ rfl (.slice (some ⟨w.heap.size, 0, none⟩) 0 0) _ rfl rfl 0 [] (List.take 0 ([] : List Ro)) (empty_row w w.heap.size (Nat.le_refl _)) (SRC1.out _ ((below1 w (.cells #[] 37)).drew)) (by have := HTL.out; omega) (by first | (simp; done) | (simp; omega) | omega) ?_
              intro v1 V1 o1 g1
              rw [show 0 + (List.take 0 ([] : List Ro)).length = 0 by have := HTL.out; omega] at o1
              have bV1 : Below w.heap.size w V1 := Below.grown ((below1 w (.cells #[] 37)).drew) g1 (by first | (simp; done) | (simp; omega) | omega) (fun j hj => (World.ownsRow.lt (empty_row w w.heap.size (Nat.le_refl _)) j hj).1)
              obtain ⟨a1, q1, rfl⟩ := own_slice3 o1
              clear hHeld
              have hHeld := KS.out _ (bV1)
              refine hK.out _ _ (.inr hHeld) ?_
              clear hK K
              try simp only [List.getElem_toArray, List.getElem_cons_zero, List.getElem_cons_succ, Act.put, List.setIfInBounds_toArray, List.set_cons_zero, List.set_cons_succ]
              refine HeldBut.ready (rs := [13]) (by kernel_rfl) (by simp) ?_
              refine AllBut.cons (o := _) rfl (fun K hK => ?_) AllBut.nil
              go_simp
              clear hHeld
              have hHeld := KS.out _ (bV1.alloc bV1.size (.cells #[.int .u32 p.toNat, .int .i64 m, .int .i64 v] 37))
              refine hK.out _ _ (.inr hHeld) ?_
              clear hK K
              try simp only [List.getElem_toArray, List.getElem_cons_zero, List.getElem_cons_succ, Act.put, List.setIfInBounds_toArray, List.set_cons_zero, List.set_cons_succ]
              refine HeldBut.ready (rs := [14]) (by kernel_rfl) (by simp) ?_
              refine AllBut.cons (o := _) rfl (fun K hK => ?_) AllBut.nil
              refine wp_app w.heap.size _ _ rfl (.slice a1 0 q1) _ rfl rfl _ _ [(p, m, v)] (World.ownsRow.alloc o1 (.cells #[.int .u32 p.toNat, .int .i64 m, .int .i64 v] 37)) (Or.inr ⟨⟨V1.heap.size, 0, none⟩, 1, rfl, cells_new3 V1 _ _ _ _⟩) (by have := HTL.out; first | omega | (simp only [List.length_cons, List.length_nil]; omega)) (by have := bV1.size; first | omega | (simp; omega)) ?_
              intro v2 V2 o2 g2
              rw [show 0 + [(p, m, v)].length = 0 + 1 from rfl] at o2
              have bV2 : Below w.heap.size w V2 := Below.grown (bV1.alloc bV1.size (.cells #[.int .u32 p.toNat, .int .i64 m, .int .i64 v] 37)) g2 (by have := bV1.size; first | omega | (simp; omega)) (fun j hj => (World.ownsRow.lt (World.ownsRow.alloc o1 (.cells #[.int .u32 p.toNat, .int .i64 m, .int .i64 v] 37)) j hj).1)
              obtain ⟨a2, q2, rfl⟩ := own_slice3 o2
              clear hHeld
              have hHeld := KS.out _ (bV2)
              refine hK.out _ _ (.inr hHeld) ?_
              clear hK K
              try simp only [List.getElem_toArray, List.getElem_cons_zero, List.getElem_cons_succ, Act.put, List.setIfInBounds_toArray, List.set_cons_zero, List.set_cons_succ]
              refine HeldBut.ready (rs := [21]) (by kernel_rfl) (by simp) ?_
              refine AllBut.cons (o := _) rfl (fun K hK => ?_) AllBut.nil
              refine wp_app w.heap.size _ _ rfl (.slice a2 (0 + 1) q2) _ rfl rfl _ _ (List.drop 0 ([] : List Ro)) o2 (SRC3.out _ bV2) (by have := HTL.out; first | omega | (simp only [List.length_cons, List.length_nil]; omega)) (by have := bV2.size; omega) ?_
              intro v3 V3 o3 g3
              rw [show 0 + 1 + (List.drop 0 ([] : List Ro)).length = 0 + 1 from rfl] at o3
              have bV3 : Below w.heap.size w V3 := Below.grown bV2 g3 (by have := bV2.size; omega) (fun j hj => (World.ownsRow.lt o2 j hj).1)
              obtain ⟨a3, q3, rfl⟩ := own_slice3 o3
              clear hHeld
              have hHeld := KS.out _ (bV3)
              refine hK.out _ _ (.inr hHeld) ?_
              clear hK K
              try simp only [List.getElem_toArray, List.getElem_cons_zero, List.getElem_cons_succ, Act.put, List.setIfInBounds_toArray, List.set_cons_zero, List.set_cons_succ]
              refine HeldBut.ready (rs := [22]) (by kernel_rfl) (by simp) ?_
              refine AllBut.cons (o := _) rfl (fun K hK => ?_) AllBut.nil
              go_simp
              clear hHeld
              have hHeld := KS.out _ (bV3)
              refine hK.out _ _ (.inr hHeld) ?_
              clear hK K
              try simp only [List.getElem_toArray, List.getElem_cons_zero, List.getElem_cons_succ, Act.put, List.setIfInBounds_toArray, List.set_cons_zero, List.set_cons_succ]
              refine HeldBut.take (i := 23) (v := ?_) rfl (by kernel_rfl) (by kernel_rfl) (by kernel_rfl) (by kernel_rfl) (fun _ _ _ h => h) (Or.inl ⟨by rfl, ?_⟩) (by assumption) ?_
              rotate_left
              · (intro w hSw; (try dsimp only at hSw); go_simp; try with_reducible rfl)
              try simp only [List.getElem_toArray, List.getElem_cons_zero, List.getElem_cons_succ, Act.put, List.setIfInBounds_toArray, List.set_cons_zero, List.set_cons_succ]
              refine HeldBut.ready (rs := [24]) (by kernel_rfl) (by simp) ?_
              refine AllBut.cons (o := _) rfl (fun K hK => ?_) AllBut.nil
              have rx : V3.heap[xb]? = _ := (bV3.block xb hxl).trans HL.out.blk
              have cx3 : V3.cell? ⟨xb, 0, none⟩ = _ := cell_row rx 0
              have fx3 := frozen_of_row V3 _ 0 _ _ rx
              have FIN : Hid _ := o3
              clear hHeld o3
              go_simp
              refine hK.out _ _ (.inl rfl) ?_
              refine HeldBut.done (by kernel_rfl) ?_ _
              clear hK K
              go_wp2
              go_ret
              refine ⟨rfl, a3, q3, ⟨?_, ⟨?_⟩, HL.out.lo, HLL.out⟩, (Keeps.of_below [xb] bV3).trans (Keeps.setCell _ xb _ _) (by simp)⟩
              · refine (row_setCell rx 0 _).trans ?_
                rw [len_ins]
                rfl
              · have := FIN.out
                rw [len_ins]; have h9 := own_lower hBw (new_row (u := .slice a3 (0 + 1) q3) HK.out rx this); rw [len_ins] at h9; exact h9
            · go_simp
              clear hHeld
              have hHeld := KS.out _ ((below2 w (.cells #[] 37) (.cells #[.int .u32 p.toNat, .int .i64 m, .int .i64 v] 37)).drew)
              refine hK.out _ _ (.inr hHeld) ?_
              clear hK K
              try simp only [List.getElem_toArray, List.getElem_cons_zero, List.getElem_cons_succ, Act.put, List.setIfInBounds_toArray, List.set_cons_zero, List.set_cons_succ]
              refine HeldBut.ready (rs := [8]) (by kernel_rfl) (by simp) ?_
              refine AllBut.cons (o := _) rfl (fun K hK => ?_) AllBut.nil
              refine wp_app w.heap.size _ _ rfl (.slice (some ⟨w.heap.size, 0, none⟩) 0 0) _ rfl rfl 0 [] (List.take 0 ([] : List Ro)) (World.ownsRow.alloc (empty_row w w.heap.size (Nat.le_refl _)) (.cells #[.int .u32 p.toNat, .int .i64 m, .int .i64 v] 37)) (SRC1.out _ ((below2 w (.cells #[] 37) (.cells #[.int .u32 p.toNat, .int .i64 m, .int .i64 v] 37)).drew)) (by have := HTL.out; omega) (by first | (simp; done) | (simp; omega) | omega) ?_
              intro v1 V1 o1 g1
              rw [show 0 + (List.take 0 ([] : List Ro)).length = 0 by have := HTL.out; omega] at o1
              have bV1 : Below w.heap.size w V1 := Below.grown ((below2 w (.cells #[] 37) (.cells #[.int .u32 p.toNat, .int .i64 m, .int .i64 v] 37)).drew) g1 (by first | (simp; done) | (simp; omega) | omega) (fun j hj => (World.ownsRow.lt (World.ownsRow.alloc (empty_row w w.heap.size (Nat.le_refl _)) (.cells #[.int .u32 p.toNat, .int .i64 m, .int .i64 v] 37)) j hj).1)
              have xc : ∀ j u, (roV [(p, m, v)])[j]? = some u → V1.cell? ((⟨w.heap.size + 1, 0, none⟩ : Addr).add j) = some u := fun j u hu => g1.cell (by have := cells_new3 (w.alloc (.cells #[] 37)) (.int .u32 p.toNat) (.int .i64 m) (.int .i64 v) 37 j u hu; simpa using this) (by simp [Value.ownBlock, plain_add3])
              obtain ⟨a1, q1, rfl⟩ := own_slice3 o1
              clear hHeld
              have hHeld := KS.out _ (bV1)
              refine hK.out _ _ (.inr hHeld) ?_
              clear hK K
              try simp only [List.getElem_toArray, List.getElem_cons_zero, List.getElem_cons_succ, Act.put, List.setIfInBounds_toArray, List.set_cons_zero, List.set_cons_succ]
              refine HeldBut.ready (rs := [14]) (by kernel_rfl) (by simp) ?_
              refine AllBut.cons (o := _) rfl (fun K hK => ?_) AllBut.nil
              refine wp_app w.heap.size _ _ rfl (.slice a1 0 q1) _ rfl rfl _ _ [(p, m, v)] (o1) (Or.inr ⟨⟨w.heap.size + 1, 0, none⟩, 1, rfl, xc⟩) (by have := HTL.out; first | omega | (simp only [List.length_cons, List.length_nil]; omega)) (by have := bV1.size; first | omega | (simp; omega)) ?_
              intro v2 V2 o2 g2
              rw [show 0 + [(p, m, v)].length = 0 + 1 from rfl] at o2
              have bV2 : Below w.heap.size w V2 := Below.grown (bV1) g2 (by have := bV1.size; first | omega | (simp; omega)) (fun j hj => (World.ownsRow.lt (o1) j hj).1)
              obtain ⟨a2, q2, rfl⟩ := own_slice3 o2
              clear hHeld
              have hHeld := KS.out _ (bV2)
              refine hK.out _ _ (.inr hHeld) ?_
              clear hK K
              try simp only [List.getElem_toArray, List.getElem_cons_zero, List.getElem_cons_succ, Act.put, List.setIfInBounds_toArray, List.set_cons_zero, List.set_cons_succ]
              refine HeldBut.ready (rs := [21]) (by kernel_rfl) (by simp) ?_
              refine AllBut.cons (o := _) rfl (fun K hK => ?_) AllBut.nil
              refine wp_app w.heap.size _ _ rfl (.slice a2 (0 + 1) q2) _ rfl rfl _ _ (List.drop 0 ([] : List Ro)) o2 (SRC3.out _ bV2) (by have := HTL.out; first | omega | (simp only [List.length_cons, List.length_nil]; omega)) (by have := bV2.size; omega) ?_
              intro v3 V3 o3 g3
              rw [show 0 + 1 + (List.drop 0 ([] : List Ro)).length = 0 + 1 from rfl] at o3
              have bV3 : Below w.heap.size w V3 := Below.grown bV2 g3 (by have := bV2.size; omega) (fun j hj => (World.ownsRow.lt o2 j hj).1)
              obtain ⟨a3, q3, rfl⟩ := own_slice3 o3
              clear hHeld
              have hHeld := KS.out _ (bV3)
              refine hK.out _ _ (.inr hHeld) ?_
              clear hK K
              try simp only [List.getElem_toArray, List.getElem_cons_zero, List.getElem_cons_succ, Act.put, List.setIfInBounds_toArray, List.set_cons_zero, List.set_cons_succ]
              refine HeldBut.ready (rs := [22]) (by kernel_rfl) (by simp) ?_
              refine AllBut.cons (o := _) rfl (fun K hK => ?_) AllBut.nil
              go_simp
              clear hHeld
              have hHeld := KS.out _ (bV3)
              refine hK.out _ _ (.inr hHeld) ?_
              clear hK K
              try simp only [List.getElem_toArray, List.getElem_cons_zero, List.getElem_cons_succ, Act.put, List.setIfInBounds_toArray, List.set_cons_zero, List.set_cons_succ]
              refine HeldBut.take (i := 23) (v := ?_) rfl (by kernel_rfl) (by kernel_rfl) (by kernel_rfl) (by kernel_rfl) (fun _ _ _ h => h) (Or.inl ⟨by rfl, ?_⟩) (by assumption) ?_
              rotate_left
              · (intro w hSw; (try dsimp only at hSw); go_simp; try with_reducible rfl)
              try simp only [List.getElem_toArray, List.getElem_cons_zero, List.getElem_cons_succ, Act.put, List.setIfInBounds_toArray, List.set_cons_zero, List.set_cons_succ]
              refine HeldBut.ready (rs := [24]) (by kernel_rfl) (by simp) ?_
              refine AllBut.cons (o := _) rfl (fun K hK => ?_) AllBut.nil
              have rx : V3.heap[xb]? = _ := (bV3.block xb hxl).trans HL.out.blk
              have cx3 : V3.cell? ⟨xb, 0, none⟩ = _ := cell_row rx 0
              have fx3 := frozen_of_row V3 _ 0 _ _ rx
              have FIN : Hid _ := o3
              clear hHeld o3
              go_simp
              refine hK.out _ _ (.inl rfl) ?_
              refine HeldBut.done (by kernel_rfl) ?_ _
              clear hK K
              go_wp2
              go_ret
              refine ⟨rfl, a3, q3, ⟨?_, ⟨?_⟩, HL.out.lo, HLL.out⟩, (Keeps.of_below [xb] bV3).trans (Keeps.setCell _ xb _ _) (by simp)⟩
              · refine (row_setCell rx 0 _).trans ?_
                rw [len_ins]
                rfl
              · have := FIN.out
                rw [len_ins]; have h9 := own_lower hBw (new_row (u := .slice a3 (0 + 1) q3) HK.out rx this); rw [len_ins] at h9; exact h9
          · go_simp
            clear hHeld
            have hHeld := KS.out _ ((below1 w (.cells #[.int .u32 p.toNat, .int .i64 m, .int .i64 v] 37)).drew)
            refine hK.out _ _ (.inr hHeld) ?_
            clear hK K
            try simp only [List.getElem_toArray, List.getElem_cons_zero, List.getElem_cons_succ, Act.put, List.setIfInBounds_toArray, List.set_cons_zero, List.set_cons_succ]
            refine HeldBut.ready (rs := [1]) (by kernel_rfl) (by simp) ?_
            refine AllBut.cons (o := _) rfl (fun K hK => ?_) AllBut.nil
            go_simp
            clear hHeld
            have hHeld := KS.out _ ((below2 w (.cells #[.int .u32 p.toNat, .int .i64 m, .int .i64 v] 37) (.cells #[] 37)).drew)
            refine hK.out _ _ (.inr hHeld) ?_
            clear hK K
            try simp only [List.getElem_toArray, List.getElem_cons_zero, List.getElem_cons_succ, Act.put, List.setIfInBounds_toArray, List.set_cons_zero, List.set_cons_succ]
            refine HeldBut.ready (rs := [8]) (by kernel_rfl) (by simp) ?_
            refine AllBut.cons (o := _) rfl (fun K hK => ?_) AllBut.nil
            refine wp_app w.heap.size _ _ rfl (.slice (some ⟨w.heap.size + 1, 0, none⟩) 0 0) _ rfl rfl 0 [] (List.take 0 ([] : List Ro)) (empty_rowE (w.alloc (.cells #[.int .u32 p.toNat, .int .i64 m, .int .i64 v] 37)) w.heap.size (w.heap.size + 1) (by simp) (by simp)) (SRC1.out _ ((below2 w (.cells #[.int .u32 p.toNat, .int .i64 m, .int .i64 v] 37) (.cells #[] 37)).drew)) (by have := HTL.out; omega) (by first | (simp; done) | (simp; omega) | omega) ?_
            intro v1 V1 o1 g1
            rw [show 0 + (List.take 0 ([] : List Ro)).length = 0 by have := HTL.out; omega] at o1
            have bV1 : Below w.heap.size w V1 := Below.grown ((below2 w (.cells #[.int .u32 p.toNat, .int .i64 m, .int .i64 v] 37) (.cells #[] 37)).drew) g1 (by first | (simp; done) | (simp; omega) | omega) (fun j hj => (World.ownsRow.lt (empty_rowE (w.alloc (.cells #[.int .u32 p.toNat, .int .i64 m, .int .i64 v] 37)) w.heap.size (w.heap.size + 1) (by simp) (by simp)) j hj).1)
            have xc : ∀ j u, (roV [(p, m, v)])[j]? = some u → V1.cell? ((⟨w.heap.size, 0, none⟩ : Addr).add j) = some u := fun j u hu => g1.cell (by have := cells_new3 w (.int .u32 p.toNat) (.int .i64 m) (.int .i64 v) 37 j u hu; rw [plain_add3] at this ⊢; exact ((below1 (w.alloc (.cells #[.int .u32 p.toNat, .int .i64 m, .int .i64 v] 37)) (.cells #[] 37)).cell (p := ⟨w.heap.size, 0 + j, none⟩) (by simp)).trans this) (by simp [Value.ownBlock, plain_add3])
            obtain ⟨a1, q1, rfl⟩ := own_slice3 o1
            clear hHeld
            have hHeld := KS.out _ (bV1)
            refine hK.out _ _ (.inr hHeld) ?_
            clear hK K
            try simp only [List.getElem_toArray, List.getElem_cons_zero, List.getElem_cons_succ, Act.put, List.setIfInBounds_toArray, List.set_cons_zero, List.set_cons_succ]
            refine HeldBut.ready (rs := [14]) (by kernel_rfl) (by simp) ?_
            refine AllBut.cons (o := _) rfl (fun K hK => ?_) AllBut.nil
            refine wp_app w.heap.size _ _ rfl (.slice a1 0 q1) _ rfl rfl _ _ [(p, m, v)] (o1) (Or.inr ⟨⟨w.heap.size, 0, none⟩, 1, rfl, xc⟩) (by have := HTL.out; first | omega | (simp only [List.length_cons, List.length_nil]; omega)) (by have := bV1.size; first | omega | (simp; omega)) ?_
            intro v2 V2 o2 g2
            rw [show 0 + [(p, m, v)].length = 0 + 1 from rfl] at o2
            have bV2 : Below w.heap.size w V2 := Below.grown (bV1) g2 (by have := bV1.size; first | omega | (simp; omega)) (fun j hj => (World.ownsRow.lt (o1) j hj).1)
            obtain ⟨a2, q2, rfl⟩ := own_slice3 o2
            clear hHeld
            have hHeld := KS.out _ (bV2)
            refine hK.out _ _ (.inr hHeld) ?_
            clear hK K
            try simp only [List.getElem_toArray, List.getElem_cons_zero, List.getElem_cons_succ, Act.put, List.setIfInBounds_toArray, List.set_cons_zero, List.set_cons_succ]
            refine HeldBut.ready (rs := [21]) (by kernel_rfl) (by simp) ?_
            refine AllBut.cons (o := _) rfl (fun K hK => ?_) AllBut.nil
            refine wp_app w.heap.size _ _ rfl (.slice a2 (0 + 1) q2) _ rfl rfl _ _ (List.drop 0 ([] : List Ro)) o2 (SRC3.out _ bV2) (by have := HTL.out; first | omega | (simp only [List.length_cons, List.length_nil]; omega)) (by have := bV2.size; omega) ?_
            intro v3 V3 o3 g3
            rw [show 0 + 1 + (List.drop 0 ([] : List Ro)).length = 0 + 1 from rfl] at o3
            have bV3 : Below w.heap.size w V3 := Below.grown bV2 g3 (by have := bV2.size; omega) (fun j hj => (World.ownsRow.lt o2 j hj).1)
            obtain ⟨a3, q3, rfl⟩ := own_slice3 o3
            clear hHeld
            have hHeld := KS.out _ (bV3)
            refine hK.out _ _ (.inr hHeld) ?_
            clear hK K
            try simp only [List.getElem_toArray, List.getElem_cons_zero, List.getElem_cons_succ, Act.put, List.setIfInBounds_toArray, List.set_cons_zero, List.set_cons_succ]
            refine HeldBut.ready (rs := [22]) (by kernel_rfl) (by simp) ?_
            refine AllBut.cons (o := _) rfl (fun K hK => ?_) AllBut.nil
            go_simp
            clear hHeld
            have hHeld := KS.out _ (bV3)
            refine hK.out _ _ (.inr hHeld) ?_
            clear hK K
            try simp only [List.getElem_toArray, List.getElem_cons_zero, List.getElem_cons_succ, Act.put, List.setIfInBounds_toArray, List.set_cons_zero, List.set_cons_succ]
            refine HeldBut.take (i := 23) (v := ?_) rfl (by kernel_rfl) (by kernel_rfl) (by kernel_rfl) (by kernel_rfl) (fun _ _ _ h => h) (Or.inl ⟨by rfl, ?_⟩) (by assumption) ?_
            rotate_left
            · (intro w hSw; (try dsimp only at hSw); go_simp; try with_reducible rfl)
            try simp only [List.getElem_toArray, List.getElem_cons_zero, List.getElem_cons_succ, Act.put, List.setIfInBounds_toArray, List.set_cons_zero, List.set_cons_succ]
            refine HeldBut.ready (rs := [24]) (by kernel_rfl) (by simp) ?_
            refine AllBut.cons (o := _) rfl (fun K hK => ?_) AllBut.nil
            have rx : V3.heap[xb]? = _ := (bV3.block xb hxl).trans HL.out.blk
            have cx3 : V3.cell? ⟨xb, 0, none⟩ = _ := cell_row rx 0
            have fx3 := frozen_of_row V3 _ 0 _ _ rx
            have FIN : Hid _ := o3
            clear hHeld o3
            go_simp
            refine hK.out _ _ (.inl rfl) ?_
            refine HeldBut.done (by kernel_rfl) ?_ _
            clear hK K
            go_wp2
            go_ret
            refine ⟨rfl, a3, q3, ⟨?_, ⟨?_⟩, HL.out.lo, HLL.out⟩, (Keeps.of_below [xb] bV3).trans (Keeps.setCell _ xb _ _) (by simp)⟩
            · refine (row_setCell rx 0 _).trans ?_
              rw [len_ins]
              rfl
            · have := FIN.out
              rw [len_ins]; have h9 := own_lower hBw (new_row (u := .slice a3 (0 + 1) q3) HK.out rx this); rw [len_ins] at h9; exact h9
        · injection e with e1 e2 e3
          subst e1 e3
          have hcap : L.length ≤ qc := by omega
          have HKK : Hid _ := hkk
          by_cases hq : k < qc
          · clear hkk e2
            have hI2 : (L.length : Int) ≤ (qc : Int) := by omega
            have hI3 : (k : Int) ≤ (L.length : Int) := by omega
            have hI4 : (k : Int) < (qc : Int) := by omega
            have hI5 : (0 : Int) ≤ (k : Int) := by omega
            have hI6 : k < qc := by omega
            have hN1 : k ≤ qc := by omega
            have hN2 : ¬ qc = k := by omega
            have KS : Hid (∀ V, Below w.heap.size w V → V.cell? ⟨xb, 0, none⟩ = some (.slice (some ⟨g, 0, none⟩) L.length qc) ∧ Below w.heap.size w V) := fun V hV => ⟨(hV.cell (p := ⟨xb, 0, none⟩) hxl).trans cx, hV⟩
            have HTL : Hid ((L.take k).length + (L.drop k).length ≤ 274877906944 ∧ (L.take k).length = k ∧ (L.drop k).length = L.length - k) := (by simp; omega : (L.take k).length + (L.drop k).length ≤ 274877906944 ∧ (L.take k).length = k ∧ (L.drop k).length = L.length - k)
            have SRC1 : Hid (∀ V, Below w.heap.size w V → Src V (.slice (some ⟨g, 0, none⟩) k qc) (L.take k)) := fun V hV => .inr ⟨⟨g, 0, none⟩, qc, by rw [HTL.out.2.1], fun j u hu => by
              rw [plain_add3]
              have := HL.out.cells (k := 0) (ys := L.take k) (fun i x hx => by rw [List.getElem?_take] at hx; split at hx; rw [Nat.zero_add]; exact hx; cases hx) hV j u hu
              simpa using this⟩
            have SRC3 : Hid (∀ V, Below w.heap.size w V → Src V (.slice (some ⟨g, k * 3, none⟩) (L.length - k) (qc - k)) (L.drop k)) := fun V hV => .inr ⟨⟨g, k * 3, none⟩, (qc - k), by rw [HTL.out.2.2], fun j u hu => by
              rw [plain_add3]
              exact HL.out.cells (k := k) (ys := L.drop k) (fun i x hx => by rw [List.getElem?_drop] at hx; exact hx) hV j u hu⟩
            go_wp2
            have hHeld : w.drew.cell? ⟨xb, 0, none⟩ = some (.slice (some ⟨g, 0, none⟩) L.length qc) ∧ Below w.heap.size w w.drew := ⟨cx, (Below.refl _ _).drew⟩
            refine region_but (fun V => V.cell? ⟨xb, 0, none⟩ = some (.slice (some ⟨g, 0, none⟩) L.length qc) ∧ Below w.heap.size w V) 24 (by kernel_rfl) ?_
            refine HeldBut.take (i := 0) (v := ?_) rfl (by kernel_rfl) (by kernel_rfl) (by kernel_rfl) (by kernel_rfl) (fun _ _ _ h => h) (Or.inl ⟨by rfl, ?_⟩) (by assumption) ?_
            rotate_left
            · (intro w hSw; (try dsimp only at hSw); go_simp; try with_reducible rfl)
            try simp only [List.getElem_toArray, List.getElem_cons_zero, List.getElem_cons_succ, Act.put, List.setIfInBounds_toArray, List.set_cons_zero, List.set_cons_succ]
            refine HeldBut.take (i := 2) (v := ?_) rfl (by kernel_rfl) (by kernel_rfl) (by kernel_rfl) (by kernel_rfl) (fun _ _ _ h => h) (Or.inl ⟨by rfl, ?_⟩) (by assumption) ?_
            rotate_left
            · (intro w hSw; (try dsimp only at hSw); go_simp; try with_reducible rfl)
            try simp only [List.getElem_toArray, List.getElem_cons_zero, List.getElem_cons_succ, Act.put, List.setIfInBounds_toArray, List.set_cons_zero, List.set_cons_succ]
            refine HeldBut.take (i := 3) (v := ?_) rfl (by kernel_rfl) (by kernel_rfl) (by kernel_rfl) (by kernel_rfl) (fun _ _ _ h => h) (Or.inl ⟨by rfl, ?_⟩) (by assumption) ?_
            rotate_left
            · (intro w hSw; (try dsimp only at hSw); go_simp; try with_reducible rfl)
            try simp only [List.getElem_toArray, List.getElem_cons_zero, List.getElem_cons_succ, Act.put, List.setIfInBounds_toArray, List.set_cons_zero, List.set_cons_succ]
            refine HeldBut.take (i := 4) (v := ?_) rfl (by kernel_rfl) (by kernel_rfl) (by kernel_rfl) (by kernel_rfl) (fun _ _ _ h => h) (Or.inl ⟨by rfl, ?_⟩) (by assumption) ?_
            rotate_left
            · (intro w hSw; (try dsimp only at hSw); go_simp; try with_reducible rfl)
            try simp only [List.getElem_toArray, List.getElem_cons_zero, List.getElem_cons_succ, Act.put, List.setIfInBounds_toArray, List.set_cons_zero, List.set_cons_succ]
            refine HeldBut.take (i := 5) (v := ?_) rfl (by kernel_rfl) (by kernel_rfl) (by kernel_rfl) (by kernel_rfl) (fun _ _ _ h => h) (Or.inl ⟨by rfl, ?_⟩) (by assumption) ?_
            rotate_left
            · (intro w hSw; (try dsimp only at hSw); go_simp; try with_reducible rfl)
            try simp only [List.getElem_toArray, List.getElem_cons_zero, List.getElem_cons_succ, Act.put, List.setIfInBounds_toArray, List.set_cons_zero, List.set_cons_succ]
            refine HeldBut.take (i := 6) (v := ?_) rfl (by kernel_rfl) (by kernel_rfl) (by kernel_rfl) (by kernel_rfl) (fun _ _ _ h => h) (Or.inl ⟨by rfl, ?_⟩) (by assumption) ?_
            rotate_left
            · (intro w hSw; (try dsimp only at hSw); go_simp; try with_reducible rfl)
            try simp only [List.getElem_toArray, List.getElem_cons_zero, List.getElem_cons_succ, Act.put, List.setIfInBounds_toArray, List.set_cons_zero, List.set_cons_succ]
            refine HeldBut.take (i := 7) (v := ?_) rfl (by kernel_rfl) (by kernel_rfl) (by kernel_rfl) (by kernel_rfl) (fun _ _ _ h => h) (Or.inl ⟨by rfl, ?_⟩) (by assumption) ?_
            rotate_left
            · (intro w hSw; (try dsimp only at hSw); go_simp; try with_reducible rfl)
            try simp only [List.getElem_toArray, List.getElem_cons_zero, List.getElem_cons_succ, Act.put, List.setIfInBounds_toArray, List.set_cons_zero, List.set_cons_succ]
            refine HeldBut.take (i := 9) (v := ?_) rfl (by kernel_rfl) (by kernel_rfl) (by kernel_rfl) (by kernel_rfl) (fun _ _ _ h => h) (Or.inl ⟨by rfl, ?_⟩) (by assumption) ?_
            rotate_left
            · (intro w hSw; (try dsimp only at hSw); go_simp; try with_reducible rfl)
            try simp only [List.getElem_toArray, List.getElem_cons_zero, List.getElem_cons_succ, Act.put, List.setIfInBounds_toArray, List.set_cons_zero, List.set_cons_succ]
            refine HeldBut.take (i := 10) (v := ?_) rfl (by kernel_rfl) (by kernel_rfl) (by kernel_rfl) (by kernel_rfl) (fun _ _ _ h => h) (Or.inl ⟨by rfl, ?_⟩) (by assumption) ?_
            rotate_left
            · (intro w hSw; (try dsimp only at hSw); go_simp; try with_reducible rfl)
            try simp only [List.getElem_toArray, List.getElem_cons_zero, List.getElem_cons_succ, Act.put, List.setIfInBounds_toArray, List.set_cons_zero, List.set_cons_succ]
            refine HeldBut.take (i := 11) (v := ?_) rfl (by kernel_rfl) (by kernel_rfl) (by kernel_rfl) (by kernel_rfl) (fun _ _ _ h => h) (Or.inl ⟨by rfl, ?_⟩) (by assumption) ?_
            rotate_left
            · (intro w hSw; (try dsimp only at hSw); go_simp; try with_reducible rfl)
            try simp only [List.getElem_toArray, List.getElem_cons_zero, List.getElem_cons_succ, Act.put, List.setIfInBounds_toArray, List.set_cons_zero, List.set_cons_succ]
            refine HeldBut.take (i := 12) (v := ?_) rfl (by kernel_rfl) (by kernel_rfl) (by kernel_rfl) (by kernel_rfl) (fun _ _ _ h => h) (Or.inl ⟨by rfl, ?_⟩) (by assumption) ?_
            rotate_left
            · (intro w hSw; (try dsimp only at hSw); go_simp; try with_reducible rfl)
            try simp only [List.getElem_toArray, List.getElem_cons_zero, List.getElem_cons_succ, Act.put, List.setIfInBounds_toArray, List.set_cons_zero, List.set_cons_succ]
            refine HeldBut.take (i := 15) (v := ?_) rfl (by kernel_rfl) (by kernel_rfl) (by kernel_rfl) (by kernel_rfl) (fun _ _ _ h => h) (Or.inl ⟨by rfl, ?_⟩) (by assumption) ?_
            rotate_left
            · (intro w hSw; (try dsimp only at hSw); go_simp; try with_reducible rfl)
            try simp only [List.getElem_toArray, List.getElem_cons_zero, List.getElem_cons_succ, Act.put, List.setIfInBounds_toArray, List.set_cons_zero, List.set_cons_succ]
            refine HeldBut.take (i := 16) (v := ?_) rfl (by kernel_rfl) (by kernel_rfl) (by kernel_rfl) (by kernel_rfl) (fun _ _ _ h => h) (Or.inl ⟨by rfl, ?_⟩) (by assumption) ?_
            rotate_left
            · (intro w hSw; (try dsimp only at hSw); go_simp; try with_reducible rfl)
            try simp only [List.getElem_toArray, List.getElem_cons_zero, List.getElem_cons_succ, Act.put, List.setIfInBounds_toArray, List.set_cons_zero, List.set_cons_succ]
            refine HeldBut.take (i := 17) (v := ?_) rfl (by kernel_rfl) (by kernel_rfl) (by kernel_rfl) (by kernel_rfl) (fun _ _ _ h => h) (Or.inl ⟨by rfl, ?_⟩) (by assumption) ?_
            rotate_left
            · (intro w hSw; (try dsimp only at hSw); go_simp; try with_reducible rfl)
            try simp only [List.getElem_toArray, List.getElem_cons_zero, List.getElem_cons_succ, Act.put, List.setIfInBounds_toArray, List.set_cons_zero, List.set_cons_succ]
            refine HeldBut.take (i := 18) (v := ?_) rfl (by kernel_rfl) (by kernel_rfl) (by kernel_rfl) (by kernel_rfl) (fun _ _ _ h => h) (Or.inl ⟨by rfl, ?_⟩) (by assumption) ?_
            rotate_left
            · (intro w hSw; (try dsimp only at hSw); go_simp; try with_reducible rfl)
            try simp only [List.getElem_toArray, List.getElem_cons_zero, List.getElem_cons_succ, Act.put, List.setIfInBounds_toArray, List.set_cons_zero, List.set_cons_succ]
            refine HeldBut.take (i := 19) (v := ?_) rfl (by kernel_rfl) (by kernel_rfl) (by kernel_rfl) (by kernel_rfl) (fun _ _ _ h => h) (Or.inl ⟨by rfl, ?_⟩) (by assumption) ?_
            rotate_left
            · (intro w hSw; (try dsimp only at hSw); go_simp; try with_reducible rfl)
            try simp only [List.getElem_toArray, List.getElem_cons_zero, List.getElem_cons_succ, Act.put, List.setIfInBounds_toArray, List.set_cons_zero, List.set_cons_succ]
            refine HeldBut.take (i := 20) (v := ?_) rfl (by kernel_rfl) (by kernel_rfl) (by kernel_rfl) (by kernel_rfl) (fun _ _ _ h => h) (Or.inl ⟨by rfl, ?_⟩) (by assumption) ?_
            rotate_left
            · (intro w hSw; (try dsimp only at hSw); go_simp; try with_reducible rfl)
            try simp only [List.getElem_toArray, List.getElem_cons_zero, List.getElem_cons_succ, Act.put, List.setIfInBounds_toArray, List.set_cons_zero, List.set_cons_succ]
            refine HeldBut.ready (rs := [1, 13]) (by kernel_rfl) (by simp) ?_
            refine AllBut.cons (o := _) rfl (fun K hK => ?_) (AllBut.cons (o := _) rfl (fun K hK => ?_) AllBut.nil)
            · go_simp
              clear hHeld
              have hHeld := KS.out _ ((below1 w (.cells #[] 37)).drew)
              refine hK.out _ _ (.inr hHeld) ?_
              clear hK K
              try simp only [List.getElem_toArray, List.getElem_cons_zero, List.getElem_cons_succ, Act.put, List.setIfInBounds_toArray, List.set_cons_zero, List.set_cons_succ]
              refine HeldBut.ready (rs := [8, 13]) (by kernel_rfl) (by simp) ?_
              refine AllBut.cons (o := _) rfl (fun K hK => ?_) (AllBut.cons (o := _) rfl (fun K hK => ?_) AllBut.nil)
              · refine wp_app w.heap.size _ _ rfl (.slice (some ⟨w.heap.size, 0, none⟩) 0 0) _ rfl rfl 0 [] (L.take k) (empty_row w w.heap.size (Nat.le_refl _)) (SRC1.out _ ((below1 w (.cells #[] 37)).drew)) (by have := HTL.out; omega) (by first | (simp; done) | (simp; omega) | omega) ?_
                intro v1 V1 o1 g1
                rw [show 0 + (L.take k).length = k by have := HTL.out; omega] at o1
                have bV1 : Below w.heap.size w V1 := Below.grown ((below1 w (.cells #[] 37)).drew) g1 (by first | (simp; done) | (simp; omega) | omega) (fun j hj => (World.ownsRow.lt (empty_row w w.heap.size (Nat.le_refl _)) j hj).1)
                obtain ⟨a1, q1, rfl⟩ := own_slice3 o1
                clear hHeld
                have hHeld := KS.out _ (bV1)
                refine hK.out _ _ (.inr hHeld) ?_
                clear hK K
                try simp only [List.getElem_toArray, List.getElem_cons_zero, List.getElem_cons_succ, Act.put, List.setIfInBounds_toArray, List.set_cons_zero, List.set_cons_succ]
                refine HeldBut.ready (rs := [13]) (by kernel_rfl) (by simp) ?_
                refine AllBut.cons (o := _) rfl (fun K hK => ?_) AllBut.nil
                go_simp
                clear hHeld
                have hHeld := KS.out _ (bV1.alloc bV1.size (.cells #[.int .u32 p.toNat, .int .i64 m, .int .i64 v] 37))
                refine hK.out _ _ (.inr hHeld) ?_
                clear hK K
                try simp only [List.getElem_toArray, List.getElem_cons_zero, List.getElem_cons_succ, Act.put, List.setIfInBounds_toArray, List.set_cons_zero, List.set_cons_succ]
                refine HeldBut.ready (rs := [14]) (by kernel_rfl) (by simp) ?_
                refine AllBut.cons (o := _) rfl (fun K hK => ?_) AllBut.nil
                refine wp_app w.heap.size _ _ rfl (.slice a1 k q1) _ rfl rfl _ _ [(p, m, v)] (World.ownsRow.alloc o1 (.cells #[.int .u32 p.toNat, .int .i64 m, .int .i64 v] 37)) (Or.inr ⟨⟨V1.heap.size, 0, none⟩, 1, rfl, cells_new3 V1 _ _ _ _⟩) (by have := HTL.out; first | omega | (simp only [List.length_cons, List.length_nil]; omega)) (by have := bV1.size; first | omega | (simp; omega)) ?_
                intro v2 V2 o2 g2
                rw [show k + [(p, m, v)].length = k + 1 from rfl] at o2
                have bV2 : Below w.heap.size w V2 := Below.grown (bV1.alloc bV1.size (.cells #[.int .u32 p.toNat, .int .i64 m, .int .i64 v] 37)) g2 (by have := bV1.size; first | omega | (simp; omega)) (fun j hj => (World.ownsRow.lt (World.ownsRow.alloc o1 (.cells #[.int .u32 p.toNat, .int .i64 m, .int .i64 v] 37)) j hj).1)
                obtain ⟨a2, q2, rfl⟩ := own_slice3 o2
                clear hHeld
                have hHeld := KS.out _ (bV2)
                refine hK.out _ _ (.inr hHeld) ?_
                clear hK K
                try simp only [List.getElem_toArray, List.getElem_cons_zero, List.getElem_cons_succ, Act.put, List.setIfInBounds_toArray, List.set_cons_zero, List.set_cons_succ]
                refine HeldBut.ready (rs := [21]) (by kernel_rfl) (by simp) ?_
                refine AllBut.cons (o := _) rfl (fun K hK => ?_) AllBut.nil
                refine wp_app w.heap.size _ _ rfl (.slice a2 (k + 1) q2) _ rfl rfl _ _ (L.drop k) o2 (SRC3.out _ bV2) (by have := HTL.out; first | omega | (simp only [List.length_cons, List.length_nil]; omega)) (by have := bV2.size; omega) ?_
                intro v3 V3 o3 g3
                rw [show k + 1 + (L.drop k).length = L.length + 1 by have := HTL.out; omega] at o3
                have bV3 : Below w.heap.size w V3 := Below.grown bV2 g3 (by have := bV2.size; omega) (fun j hj => (World.ownsRow.lt o2 j hj).1)
                obtain ⟨a3, q3, rfl⟩ := own_slice3 o3
                clear hHeld
                have hHeld := KS.out _ (bV3)
                refine hK.out _ _ (.inr hHeld) ?_
                clear hK K
                try simp only [List.getElem_toArray, List.getElem_cons_zero, List.getElem_cons_succ, Act.put, List.setIfInBounds_toArray, List.set_cons_zero, List.set_cons_succ]
                refine HeldBut.ready (rs := [22]) (by kernel_rfl) (by simp) ?_
                refine AllBut.cons (o := _) rfl (fun K hK => ?_) AllBut.nil
                go_simp
                clear hHeld
                have hHeld := KS.out _ (bV3)
                refine hK.out _ _ (.inr hHeld) ?_
                clear hK K
                try simp only [List.getElem_toArray, List.getElem_cons_zero, List.getElem_cons_succ, Act.put, List.setIfInBounds_toArray, List.set_cons_zero, List.set_cons_succ]
                refine HeldBut.take (i := 23) (v := ?_) rfl (by kernel_rfl) (by kernel_rfl) (by kernel_rfl) (by kernel_rfl) (fun _ _ _ h => h) (Or.inl ⟨by rfl, ?_⟩) (by assumption) ?_
                rotate_left
                · (intro w hSw; (try dsimp only at hSw); go_simp; try with_reducible rfl)
                try simp only [List.getElem_toArray, List.getElem_cons_zero, List.getElem_cons_succ, Act.put, List.setIfInBounds_toArray, List.set_cons_zero, List.set_cons_succ]
                refine HeldBut.ready (rs := [24]) (by kernel_rfl) (by simp) ?_
                refine AllBut.cons (o := _) rfl (fun K hK => ?_) AllBut.nil
                have rx : V3.heap[xb]? = _ := (bV3.block xb hxl).trans HL.out.blk
                have cx3 : V3.cell? ⟨xb, 0, none⟩ = _ := cell_row rx 0
                have fx3 := frozen_of_row V3 _ 0 _ _ rx
                have FIN : Hid _ := o3
                clear hHeld o3
                go_simp
                refine hK.out _ _ (.inl rfl) ?_
                refine HeldBut.done (by kernel_rfl) ?_ _
                clear hK K
                go_wp2
                go_ret
                refine ⟨rfl, a3, q3, ⟨?_, ⟨?_⟩, HL.out.lo, HLL.out⟩, (Keeps.of_below [xb] bV3).trans (Keeps.setCell _ xb _ _) (by simp)⟩
                · refine (row_setCell rx 0 _).trans ?_
                  rw [len_ins]
                  rfl
                · have := FIN.out
                  rw [len_ins]; have h9 := own_lower hBw (new_row (u := .slice a3 (L.length + 1) q3) HK.out rx this); rw [len_ins] at h9; exact h9
              · go_simp
                clear hHeld
                have hHeld := KS.out _ ((below2 w (.cells #[] 37) (.cells #[.int .u32 p.toNat, .int .i64 m, .int .i64 v] 37)).drew)
                refine hK.out _ _ (.inr hHeld) ?_
                clear hK K
                try simp only [List.getElem_toArray, List.getElem_cons_zero, List.getElem_cons_succ, Act.put, List.setIfInBounds_toArray, List.set_cons_zero, List.set_cons_succ]
                refine HeldBut.ready (rs := [8]) (by kernel_rfl) (by simp) ?_
                refine AllBut.cons (o := _) rfl (fun K hK => ?_) AllBut.nil
                refine wp_app w.heap.size _ _ rfl (.slice (some ⟨w.heap.size, 0, none⟩) 0 0) _ rfl rfl 0 [] (L.take k) (World.ownsRow.alloc (empty_row w w.heap.size (Nat.le_refl _)) (.cells #[.int .u32 p.toNat, .int .i64 m, .int .i64 v] 37)) (SRC1.out _ ((below2 w (.cells #[] 37) (.cells #[.int .u32 p.toNat, .int .i64 m, .int .i64 v] 37)).drew)) (by have := HTL.out; omega) (by first | (simp; done) | (simp; omega) | omega) ?_
                intro v1 V1 o1 g1
                rw [show 0 + (L.take k).length = k by have := HTL.out; omega] at o1
                have bV1 : Below w.heap.size w V1 := Below.grown ((below2 w (.cells #[] 37) (.cells #[.int .u32 p.toNat, .int .i64 m, .int .i64 v] 37)).drew) g1 (by first | (simp; done) | (simp; omega) | omega) (fun j hj => (World.ownsRow.lt (World.ownsRow.alloc (empty_row w w.heap.size (Nat.le_refl _)) (.cells #[.int .u32 p.toNat, .int .i64 m, .int .i64 v] 37)) j hj).1)
                have xc : ∀ j u, (roV [(p, m, v)])[j]? = some u → V1.cell? ((⟨w.heap.size + 1, 0, none⟩ : Addr).add j) = some u := fun j u hu => g1.cell (by have := cells_new3 (w.alloc (.cells #[] 37)) (.int .u32 p.toNat) (.int .i64 m) (.int .i64 v) 37 j u hu; simpa using this) (by simp [Value.ownBlock, plain_add3])
                obtain ⟨a1, q1, rfl⟩ := own_slice3 o1
                clear hHeld
                have hHeld := KS.out _ (bV1)
                refine hK.out _ _ (.inr hHeld) ?_
                clear hK K
                try simp only [List.getElem_toArray, List.getElem_cons_zero, List.getElem_cons_succ, Act.put, List.setIfInBounds_toArray, List.set_cons_zero, List.set_cons_succ]
                refine HeldBut.ready (rs := [14]) (by kernel_rfl) (by simp) ?_
                refine AllBut.cons (o := _) rfl (fun K hK => ?_) AllBut.nil
                refine wp_app w.heap.size _ _ rfl (.slice a1 k q1) _ rfl rfl _ _ [(p, m, v)] (o1) (Or.inr ⟨⟨w.heap.size + 1, 0, none⟩, 1, rfl, xc⟩) (by have := HTL.out; first | omega | (simp only [List.length_cons, List.length_nil]; omega)) (by have := bV1.size; first | omega | (simp; omega)) ?_
                intro v2 V2 o2 g2
                rw [show k + [(p, m, v)].length = k + 1 from rfl] at o2
                have bV2 : Below w.heap.size w V2 := Below.grown (bV1) g2 (by have := bV1.size; first | omega | (simp; omega)) (fun j hj => (World.ownsRow.lt (o1) j hj).1)
                obtain ⟨a2, q2, rfl⟩ := own_slice3 o2
                clear hHeld
                have hHeld := KS.out _ (bV2)
                refine hK.out _ _ (.inr hHeld) ?_
                clear hK K
                try simp only [List.getElem_toArray, List.getElem_cons_zero, List.getElem_cons_succ, Act.put, List.setIfInBounds_toArray, List.set_cons_zero, List.set_cons_succ]
                refine HeldBut.ready (rs := [21]) (by kernel_rfl) (by simp) ?_
                refine AllBut.cons (o := _) rfl (fun K hK => ?_) AllBut.nil
                refine wp_app w.heap.size _ _ rfl (.slice a2 (k + 1) q2) _ rfl rfl _ _ (L.drop k) o2 (SRC3.out _ bV2) (by have := HTL.out; first | omega | (simp only [List.length_cons, List.length_nil]; omega)) (by have := bV2.size; omega) ?_
                intro v3 V3 o3 g3
                rw [show k + 1 + (L.drop k).length = L.length + 1 by have := HTL.out; omega] at o3
                have bV3 : Below w.heap.size w V3 := Below.grown bV2 g3 (by have := bV2.size; omega) (fun j hj => (World.ownsRow.lt o2 j hj).1)
                obtain ⟨a3, q3, rfl⟩ := own_slice3 o3
                clear hHeld
                have hHeld := KS.out _ (bV3)
                refine hK.out _ _ (.inr hHeld) ?_
                clear hK K
                try simp only [List.getElem_toArray, List.getElem_cons_zero, List.getElem_cons_succ, Act.put, List.setIfInBounds_toArray, List.set_cons_zero, List.set_cons_succ]
                refine HeldBut.ready (rs := [22]) (by kernel_rfl) (by simp) ?_
                refine AllBut.cons (o := _) rfl (fun K hK => ?_) AllBut.nil
                go_simp
                clear hHeld
                have hHeld := KS.out _ (bV3)
                refine hK.out _ _ (.inr hHeld) ?_
                clear hK K
                try simp only [List.getElem_toArray, List.getElem_cons_zero, List.getElem_cons_succ, Act.put, List.setIfInBounds_toArray, List.set_cons_zero, List.set_cons_succ]
                refine HeldBut.take (i := 23) (v := ?_) rfl (by kernel_rfl) (by kernel_rfl) (by kernel_rfl) (by kernel_rfl) (fun _ _ _ h => h) (Or.inl ⟨by rfl, ?_⟩) (by assumption) ?_
                rotate_left
                · (intro w hSw; (try dsimp only at hSw); go_simp; try with_reducible rfl)
                try simp only [List.getElem_toArray, List.getElem_cons_zero, List.getElem_cons_succ, Act.put, List.setIfInBounds_toArray, List.set_cons_zero, List.set_cons_succ]
                refine HeldBut.ready (rs := [24]) (by kernel_rfl) (by simp) ?_
                refine AllBut.cons (o := _) rfl (fun K hK => ?_) AllBut.nil
                have rx : V3.heap[xb]? = _ := (bV3.block xb hxl).trans HL.out.blk
                have cx3 : V3.cell? ⟨xb, 0, none⟩ = _ := cell_row rx 0
                have fx3 := frozen_of_row V3 _ 0 _ _ rx
                have FIN : Hid _ := o3
                clear hHeld o3
                go_simp
                refine hK.out _ _ (.inl rfl) ?_
                refine HeldBut.done (by kernel_rfl) ?_ _
                clear hK K
                go_wp2
                go_ret
                refine ⟨rfl, a3, q3, ⟨?_, ⟨?_⟩, HL.out.lo, HLL.out⟩, (Keeps.of_below [xb] bV3).trans (Keeps.setCell _ xb _ _) (by simp)⟩
                · refine (row_setCell rx 0 _).trans ?_
                  rw [len_ins]
                  rfl
                · have := FIN.out
                  rw [len_ins]; have h9 := own_lower hBw (new_row (u := .slice a3 (L.length + 1) q3) HK.out rx this); rw [len_ins] at h9; exact h9
            · go_simp
              clear hHeld
              have hHeld := KS.out _ ((below1 w (.cells #[.int .u32 p.toNat, .int .i64 m, .int .i64 v] 37)).drew)
              refine hK.out _ _ (.inr hHeld) ?_
              clear hK K
              try simp only [List.getElem_toArray, List.getElem_cons_zero, List.getElem_cons_succ, Act.put, List.setIfInBounds_toArray, List.set_cons_zero, List.set_cons_succ]
              refine HeldBut.ready (rs := [1]) (by kernel_rfl) (by simp) ?_
              refine AllBut.cons (o := _) rfl (fun K hK => ?_) AllBut.nil
              go_simp
              clear hHeld
              have hHeld := KS.out _ ((below2 w (.cells #[.int .u32 p.toNat, .int .i64 m, .int .i64 v] 37) (.cells #[] 37)).drew)
              refine hK.out _ _ (.inr hHeld) ?_
              clear hK K
              try simp only [List.getElem_toArray, List.getElem_cons_zero, List.getElem_cons_succ, Act.put, List.setIfInBounds_toArray, List.set_cons_zero, List.set_cons_succ]
              refine HeldBut.ready (rs := [8]) (by kernel_rfl) (by simp) ?_
              refine AllBut.cons (o := _) rfl (fun K hK => ?_) AllBut.nil
              refine wp_app w.heap.size _ _ rfl (.slice (some ⟨w.heap.size + 1, 0, none⟩) 0 0) _ rfl rfl 0 [] (L.take k) (empty_rowE (w.alloc (.cells #[.int .u32 p.toNat, .int .i64 m, .int .i64 v] 37)) w.heap.size (w.heap.size + 1) (by simp) (by simp)) (SRC1.out _ ((below2 w (.cells #[.int .u32 p.toNat, .int .i64 m, .int .i64 v] 37) (.cells #[] 37)).drew)) (by have := HTL.out; omega) (by first | (simp; done) | (simp; omega) | omega) ?_
              intro v1 V1 o1 g1
              rw [show 0 + (L.take k).length = k by have := HTL.out; omega] at o1
              have bV1 : Below w.heap.size w V1 := Below.grown ((below2 w (.cells #[.int .u32 p.toNat, .int .i64 m, .int .i64 v] 37) (.cells #[] 37)).drew) g1 (by first | (simp; done) | (simp; omega) | omega) (fun j hj => (World.ownsRow.lt (empty_rowE (w.alloc (.cells #[.int .u32 p.toNat, .int .i64 m, .int .i64 v] 37)) w.heap.size (w.heap.size + 1) (by simp) (by simp)) j hj).1)
              have xc : ∀ j u, (roV [(p, m, v)])[j]? = some u → V1.cell? ((⟨w.heap.size, 0, none⟩ : Addr).add j) = some u := fun j u hu => g1.cell (by have := cells_new3 w (.int .u32 p.toNat) (.int .i64 m) (.int .i64 v) 37 j u hu; rw [plain_add3] at this ⊢; exact ((below1 (w.alloc (.cells #[.int .u32 p.toNat, .int .i64 m, .int .i64 v] 37)) (.cells #[] 37)).cell (p := ⟨w.heap.size, 0 + j, none⟩) (by simp)).trans this) (by simp [Value.ownBlock, plain_add3])
              obtain ⟨a1, q1, rfl⟩ := own_slice3 o1
              clear hHeld
              have hHeld := KS.out _ (bV1)
              refine hK.out _ _ (.inr hHeld) ?_
              clear hK K
              try simp only [List.getElem_toArray, List.getElem_cons_zero, List.getElem_cons_succ, Act.put, List.setIfInBounds_toArray, List.set_cons_zero, List.set_cons_succ]
              refine HeldBut.ready (rs := [14]) (by kernel_rfl) (by simp) ?_
              refine AllBut.cons (o := _) rfl (fun K hK => ?_) AllBut.nil
              refine wp_app w.heap.size _ _ rfl (.slice a1 k q1) _ rfl rfl _ _ [(p, m, v)] (o1) (Or.inr ⟨⟨w.heap.size, 0, none⟩, 1, rfl, xc⟩) (by have := HTL.out; first | omega | (simp only [List.length_cons, List.length_nil]; omega)) (by have := bV1.size; first | omega | (simp; omega)) ?_
              intro v2 V2 o2 g2
              rw [show k + [(p, m, v)].length = k + 1 from rfl] at o2
              have bV2 : Below w.heap.size w V2 := Below.grown (bV1) g2 (by have := bV1.size; first | omega | (simp; omega)) (fun j hj => (World.ownsRow.lt (o1) j hj).1)
              obtain ⟨a2, q2, rfl⟩ := own_slice3 o2
              clear hHeld
              have hHeld := KS.out _ (bV2)
              refine hK.out _ _ (.inr hHeld) ?_
              clear hK K
              try simp only [List.getElem_toArray, List.getElem_cons_zero, List.getElem_cons_succ, Act.put, List.setIfInBounds_toArray, List.set_cons_zero, List.set_cons_succ]
              refine HeldBut.ready (rs := [21]) (by kernel_rfl) (by simp) ?_
              refine AllBut.cons (o := _) rfl (fun K hK => ?_) AllBut.nil
              refine wp_app w.heap.size _ _ rfl (.slice a2 (k + 1) q2) _ rfl rfl _ _ (L.drop k) o2 (SRC3.out _ bV2) (by have := HTL.out; first | omega | (simp only [List.length_cons, List.length_nil]; omega)) (by have := bV2.size; omega) ?_
              intro v3 V3 o3 g3
              rw [show k + 1 + (L.drop k).length = L.length + 1 by have := HTL.out; omega] at o3
              have bV3 : Below w.heap.size w V3 := Below.grown bV2 g3 (by have := bV2.size; omega) (fun j hj => (World.ownsRow.lt o2 j hj).1)
              obtain ⟨a3, q3, rfl⟩ := own_slice3 o3
              clear hHeld
              have hHeld := KS.out _ (bV3)
              refine hK.out _ _ (.inr hHeld) ?_
              clear hK K
              try simp only [List.getElem_toArray, List.getElem_cons_zero, List.getElem_cons_succ, Act.put, List.setIfInBounds_toArray, List.set_cons_zero, List.set_cons_succ]
              refine HeldBut.ready (rs := [22]) (by kernel_rfl) (by simp) ?_
              refine AllBut.cons (o := _) rfl (fun K hK => ?_) AllBut.nil
              go_simp
              clear hHeld
              have hHeld := KS.out _ (bV3)
              refine hK.out _ _ (.inr hHeld) ?_
              clear hK K
              try simp only [List.getElem_toArray, List.getElem_cons_zero, List.getElem_cons_succ, Act.put, List.setIfInBounds_toArray, List.set_cons_zero, List.set_cons_succ]
              refine HeldBut.take (i := 23) (v := ?_) rfl (by kernel_rfl) (by kernel_rfl) (by kernel_rfl) (by kernel_rfl) (fun _ _ _ h => h) (Or.inl ⟨by rfl, ?_⟩) (by assumption) ?_
              rotate_left
              · (intro w hSw; (try dsimp only at hSw); go_simp; try with_reducible rfl)
              try simp only [List.getElem_toArray, List.getElem_cons_zero, List.getElem_cons_succ, Act.put, List.setIfInBounds_toArray, List.set_cons_zero, List.set_cons_succ]
              refine HeldBut.ready (rs := [24]) (by kernel_rfl) (by simp) ?_
              refine AllBut.cons (o := _) rfl (fun K hK => ?_) AllBut.nil
              have rx : V3.heap[xb]? = _ := (bV3.block xb hxl).trans HL.out.blk
              have cx3 : V3.cell? ⟨xb, 0, none⟩ = _ := cell_row rx 0
              have fx3 := frozen_of_row V3 _ 0 _ _ rx
              have FIN : Hid _ := o3
              clear hHeld o3
              go_simp
              refine hK.out _ _ (.inl rfl) ?_
              refine HeldBut.done (by kernel_rfl) ?_ _
              clear hK K
              go_wp2
              go_ret
              refine ⟨rfl, a3, q3, ⟨?_, ⟨?_⟩, HL.out.lo, HLL.out⟩, (Keeps.of_below [xb] bV3).trans (Keeps.setCell _ xb _ _) (by simp)⟩
              · refine (row_setCell rx 0 _).trans ?_
                rw [len_ins]
                rfl
              · have := FIN.out
                rw [len_ins]; have h9 := own_lower hBw (new_row (u := .slice a3 (L.length + 1) q3) HK.out rx this); rw [len_ins] at h9; exact h9
          · obtain rfl : k = qc := by omega
            clear hkk e2
            have hI2 : (L.length : Int) ≤ (k : Int) := by omega
            have hI3 : (k : Int) ≤ (L.length : Int) := by omega
            have hI5 : (0 : Int) ≤ (k : Int) := by omega
            have hN1 : k ≤ k := by omega
            clear hcap hq h3
            have KS : Hid (∀ V, Below w.heap.size w V → V.cell? ⟨xb, 0, none⟩ = some (.slice (some ⟨g, 0, none⟩) L.length k) ∧ Below w.heap.size w V) := fun V hV => ⟨(hV.cell (p := ⟨xb, 0, none⟩) hxl).trans cx, hV⟩
            have HTL : Hid ((L.take k).length + (L.drop k).length ≤ 274877906944 ∧ (L.take k).length = k ∧ (L.drop k).length = L.length - k) := (by simp; omega : (L.take k).length + (L.drop k).length ≤ 274877906944 ∧ (L.take k).length = k ∧ (L.drop k).length = L.length - k)
            have SRC1 : Hid (∀ V, Below w.heap.size w V → Src V (.slice (some ⟨g, 0, none⟩) k k) (L.take k)) := fun V hV => .inr ⟨⟨g, 0, none⟩, k, by rw [HTL.out.2.1], fun j u hu => by
              rw [plain_add3]
              have := HL.out.cells (k := 0) (ys := L.take k) (fun i x hx => by rw [List.getElem?_take] at hx; split at hx; rw [Nat.zero_add]; exact hx; cases hx) hV j u hu
              simpa using this⟩
            have SRC3 : Hid (∀ V, Below w.heap.size w V → Src V (.slice (some ⟨g, 0, none⟩) (L.length - k) 0) (L.drop k)) := fun V hV => .inr ⟨⟨g, 0, none⟩, 0, by rw [HTL.out.2.2], fun j u hu => by
              rw [plain_add3]
              rw [show L.drop k = [] from List.drop_eq_nil_of_le (by have := HKK.out; omega)] at hu; simp [roV] at hu⟩
            go_wp2
            have hHeld : w.drew.cell? ⟨xb, 0, none⟩ = some (.slice (some ⟨g, 0, none⟩) L.length k) ∧ Below w.heap.size w w.drew := ⟨cx, (Below.refl _ _).drew⟩
            refine region_but (fun V => V.cell? ⟨xb, 0, none⟩ = some (.slice (some ⟨g, 0, none⟩) L.length k) ∧ Below w.heap.size w V) 24 (by kernel_rfl) ?_
            refine HeldBut.take (i := 0) (v := ?_) rfl (by kernel_rfl) (by kernel_rfl) (by kernel_rfl) (by kernel_rfl) (fun _ _ _ h => h) (Or.inl ⟨by rfl, ?_⟩) (by assumption) ?_
            rotate_left
            · (intro w hSw; (try dsimp only at hSw); go_simp; try with_reducible rfl)
            try simp only [List.getElem_toArray, List.getElem_cons_zero, List.getElem_cons_succ, Act.put, List.setIfInBounds_toArray, List.set_cons_zero, List.set_cons_succ]
            refine HeldBut.take (i := 2) (v := ?_) rfl (by kernel_rfl) (by kernel_rfl) (by kernel_rfl) (by kernel_rfl) (fun _ _ _ h => h) (Or.inl ⟨by rfl, ?_⟩) (by assumption) ?_
            rotate_left
            · (intro w hSw; (try dsimp only at hSw); go_simp; try with_reducible rfl)
            try simp only [List.getElem_toArray, List.getElem_cons_zero, List.getElem_cons_succ, Act.put, List.setIfInBounds_toArray, List.set_cons_zero, List.set_cons_succ]
            refine HeldBut.take (i := 3) (v := ?_) rfl (by kernel_rfl) (by kernel_rfl) (by kernel_rfl) (by kernel_rfl) (fun _ _ _ h => h) (Or.inl ⟨by rfl, ?_⟩) (by assumption) ?_
            rotate_left
            · (intro w hSw; (try dsimp only at hSw); go_simp; try with_reducible rfl)
            try simp only [List.getElem_toArray, List.getElem_cons_zero, List.getElem_cons_succ, Act.put, List.setIfInBounds_toArray, List.set_cons_zero, List.set_cons_succ]
            refine HeldBut.take (i := 4) (v := ?_) rfl (by kernel_rfl) (by kernel_rfl) (by kernel_rfl) (by kernel_rfl) (fun _ _ _ h => h) (Or.inl ⟨by rfl, ?_⟩) (by assumption) ?_
            rotate_left
            · (intro w hSw; (try dsimp only at hSw); go_simp; try with_reducible rfl)
            try simp only [List.getElem_toArray, List.getElem_cons_zero, List.getElem_cons_succ, Act.put, List.setIfInBounds_toArray, List.set_cons_zero, List.set_cons_succ]
            refine HeldBut.take (i := 5) (v := ?_) rfl (by kernel_rfl) (by kernel_rfl) (by kernel_rfl) (by kernel_rfl) (fun _ _ _ h => h) (Or.inl ⟨by rfl, ?_⟩) (by assumption) ?_
            rotate_left
            · (intro w hSw; (try dsimp only at hSw); go_simp; try with_reducible rfl)
            try simp only [List.getElem_toArray, List.getElem_cons_zero, List.getElem_cons_succ, Act.put, List.setIfInBounds_toArray, List.set_cons_zero, List.set_cons_succ]
            refine HeldBut.take (i := 6) (v := ?_) rfl (by kernel_rfl) (by kernel_rfl) (by kernel_rfl) (by kernel_rfl) (fun _ _ _ h => h) (Or.inl ⟨by rfl, ?_⟩) (by assumption) ?_
            rotate_left
            · (intro w hSw; (try dsimp only at hSw); go_simp; try with_reducible rfl)
            try simp only [List.getElem_toArray, List.getElem_cons_zero, List.getElem_cons_succ, Act.put, List.setIfInBounds_toArray, List.set_cons_zero, List.set_cons_succ]
            refine HeldBut.take (i := 7) (v := ?_) rfl (by kernel_rfl) (by kernel_rfl) (by kernel_rfl) (by kernel_rfl) (fun _ _ _ h => h) (Or.inl ⟨by rfl, ?_⟩) (by assumption) ?_
            rotate_left
            · (intro w hSw; (try dsimp only at hSw); go_simp; try with_reducible rfl)
            try simp only [List.getElem_toArray, List.getElem_cons_zero, List.getElem_cons_succ, Act.put, List.setIfInBounds_toArray, List.set_cons_zero, List.set_cons_succ]
            refine HeldBut.take (i := 9) (v := ?_) rfl (by kernel_rfl) (by kernel_rfl) (by kernel_rfl) (by kernel_rfl) (fun _ _ _ h => h) (Or.inl ⟨by rfl, ?_⟩) (by assumption) ?_
            rotate_left
            · (intro w hSw; (try dsimp only at hSw); go_simp; try with_reducible rfl)
            try simp only [List.getElem_toArray, List.getElem_cons_zero, List.getElem_cons_succ, Act.put, List.setIfInBounds_toArray, List.set_cons_zero, List.set_cons_succ]
            refine HeldBut.take (i := 10) (v := ?_) rfl (by kernel_rfl) (by kernel_rfl) (by kernel_rfl) (by kernel_rfl) (fun _ _ _ h => h) (Or.inl ⟨by rfl, ?_⟩) (by assumption) ?_
            rotate_left
            · (intro w hSw; (try dsimp only at hSw); go_simp; try with_reducible rfl)
            try simp only [List.getElem_toArray, List.getElem_cons_zero, List.getElem_cons_succ, Act.put, List.setIfInBounds_toArray, List.set_cons_zero, List.set_cons_succ]
            refine HeldBut.take (i := 11) (v := ?_) rfl (by kernel_rfl) (by kernel_rfl) (by kernel_rfl) (by kernel_rfl) (fun _ _ _ h => h) (Or.inl ⟨by rfl, ?_⟩) (by assumption) ?_
            rotate_left
            · (intro w hSw; (try dsimp only at hSw); go_simp; try with_reducible rfl)
            try simp only [List.getElem_toArray, List.getElem_cons_zero, List.getElem_cons_succ, Act.put, List.setIfInBounds_toArray, List.set_cons_zero, List.set_cons_succ]
            refine HeldBut.take (i := 12) (v := ?_) rfl (by kernel_rfl) (by kernel_rfl) (by kernel_rfl) (by kernel_rfl) (fun _ _ _ h => h) (Or.inl ⟨by rfl, ?_⟩) (by assumption) ?_
            rotate_left
            · (intro w hSw; (try dsimp only at hSw); go_simp; try with_reducible rfl)
            try simp only [List.getElem_toArray, List.getElem_cons_zero, List.getElem_cons_succ, Act.put, List.setIfInBounds_toArray, List.set_cons_zero, List.set_cons_succ]
            refine HeldBut.take (i := 15) (v := ?_) rfl (by kernel_rfl) (by kernel_rfl) (by kernel_rfl) (by kernel_rfl) (fun _ _ _ h => h) (Or.inl ⟨by rfl, ?_⟩) (by assumption) ?_
            rotate_left
            · (intro w hSw; (try dsimp only at hSw); go_simp; try with_reducible rfl)
            try simp only [List.getElem_toArray, List.getElem_cons_zero, List.getElem_cons_succ, Act.put, List.setIfInBounds_toArray, List.set_cons_zero, List.set_cons_succ]
            refine HeldBut.take (i := 16) (v := ?_) rfl (by kernel_rfl) (by kernel_rfl) (by kernel_rfl) (by kernel_rfl) (fun _ _ _ h => h) (Or.inl ⟨by rfl, ?_⟩) (by assumption) ?_
            rotate_left
            · (intro w hSw; (try dsimp only at hSw); go_simp; try with_reducible rfl)
            try simp only [List.getElem_toArray, List.getElem_cons_zero, List.getElem_cons_succ, Act.put, List.setIfInBounds_toArray, List.set_cons_zero, List.set_cons_succ]
            refine HeldBut.take (i := 17) (v := ?_) rfl (by kernel_rfl) (by kernel_rfl) (by kernel_rfl) (by kernel_rfl) (fun _ _ _ h => h) (Or.inl ⟨by rfl, ?_⟩) (by assumption) ?_
            rotate_left
            · (intro w hSw; (try dsimp only at hSw); go_simp; try with_reducible rfl)
            try simp only [List.getElem_toArray, List.getElem_cons_zero, List.getElem_cons_succ, Act.put, List.setIfInBounds_toArray, List.set_cons_zero, List.set_cons_succ]
            refine HeldBut.take (i := 18) (v := ?_) rfl (by kernel_rfl) (by kernel_rfl) (by kernel_rfl) (by kernel_rfl) (fun _ _ _ h => h) (Or.inl ⟨by rfl, ?_⟩) (by assumption) ?_
            rotate_left
            · (intro w hSw; (try dsimp only at hSw); go_simp; try with_reducible rfl)
            try simp only [List.getElem_toArray, List.getElem_cons_zero, List.getElem_cons_succ, Act.put, List.setIfInBounds_toArray, List.set_cons_zero, List.set_cons_succ]
            refine HeldBut.take (i := 19) (v := ?_) rfl (by kernel_rfl) (by kernel_rfl) (by kernel_rfl) (by kernel_rfl) (fun _ _ _ h => h) (Or.inl ⟨by rfl, ?_⟩) (by assumption) ?_
            rotate_left
            · (intro w hSw; (try dsimp only at hSw); go_simp; try with_reducible rfl)
            try simp only [List.getElem_toArray, List.getElem_cons_zero, List.getElem_cons_succ, Act.put, List.setIfInBounds_toArray, List.set_cons_zero, List.set_cons_succ]
            refine HeldBut.take (i := 20) (v := ?_) rfl (by kernel_rfl) (by kernel_rfl) (by kernel_rfl) (by kernel_rfl) (fun _ _ _ h => h) (Or.inl ⟨by rfl, ?_⟩) (by assumption) ?_
            rotate_left
            · (intro w hSw; (try dsimp only at hSw); go_simp; try with_reducible rfl)
            try simp only [List.getElem_toArray, List.getElem_cons_zero, List.getElem_cons_succ, Act.put, List.setIfInBounds_toArray, List.set_cons_zero, List.set_cons_succ]
            refine HeldBut.ready (rs := [1, 13]) (by kernel_rfl) (by simp) ?_
            refine AllBut.cons (o := _) rfl (fun K hK => ?_) (AllBut.cons (o := _) rfl (fun K hK => ?_) AllBut.nil)
            · go_simp
              clear hHeld
              have hHeld := KS.out _ ((below1 w (.cells #[] 37)).drew)
              refine hK.out _ _ (.inr hHeld) ?_
              clear hK K
              try simp only [List.getElem_toArray, List.getElem_cons_zero, List.getElem_cons_succ, Act.put, List.setIfInBounds_toArray, List.set_cons_zero, List.set_cons_succ]
              refine HeldBut.ready (rs := [8, 13]) (by kernel_rfl) (by simp) ?_
              refine AllBut.cons (o := _) rfl (fun K hK => ?_) (AllBut.cons (o := _) rfl (fun K hK => ?_) AllBut.nil)
              · refine wp_app w.heap.size _ _ rfl (.slice (some ⟨w.heap.size, 0, none⟩) 0 0) _ rfl rfl 0 [] (L.take k) (empty_row w w.heap.size (Nat.le_refl _)) (SRC1.out _ ((below1 w (.cells #[] 37)).drew)) (by have := HTL.out; omega) (by first | (simp; done) | (simp; omega) | omega) ?_
                intro v1 V1 o1 g1
                rw [show 0 + (L.take k).length = k by have := HTL.out; omega] at o1
                have bV1 : Below w.heap.size w V1 := Below.grown ((below1 w (.cells #[] 37)).drew) g1 (by first | (simp; done) | (simp; omega) | omega) (fun j hj => (World.ownsRow.lt (empty_row w w.heap.size (Nat.le_refl _)) j hj).1)
                obtain ⟨a1, q1, rfl⟩ := own_slice3 o1
                clear hHeld
                have hHeld := KS.out _ (bV1)
                refine hK.out _ _ (.inr hHeld) ?_
                clear hK K
                try simp only [List.getElem_toArray, List.getElem_cons_zero, List.getElem_cons_succ, Act.put, List.setIfInBounds_toArray, List.set_cons_zero, List.set_cons_succ]
                refine HeldBut.ready (rs := [13]) (by kernel_rfl) (by simp) ?_
                refine AllBut.cons (o := _) rfl (fun K hK => ?_) AllBut.nil
                go_simp
                clear hHeld
                have hHeld := KS.out _ (bV1.alloc bV1.size (.cells #[.int .u32 p.toNat, .int .i64 m, .int .i64 v] 37))
                refine hK.out _ _ (.inr hHeld) ?_
                clear hK K
                try simp only [List.getElem_toArray, List.getElem_cons_zero, List.getElem_cons_succ, Act.put, List.setIfInBounds_toArray, List.set_cons_zero, List.set_cons_succ]
                refine HeldBut.ready (rs := [14]) (by kernel_rfl) (by simp) ?_
                refine AllBut.cons (o := _) rfl (fun K hK => ?_) AllBut.nil
                refine wp_app w.heap.size _ _ rfl (.slice a1 k q1) _ rfl rfl _ _ [(p, m, v)] (World.ownsRow.alloc o1 (.cells #[.int .u32 p.toNat, .int .i64 m, .int .i64 v] 37)) (Or.inr ⟨⟨V1.heap.size, 0, none⟩, 1, rfl, cells_new3 V1 _ _ _ _⟩) (by have := HTL.out; first | omega | (simp only [List.length_cons, List.length_nil]; omega)) (by have := bV1.size; first | omega | (simp; omega)) ?_
                intro v2 V2 o2 g2
                rw [show k + [(p, m, v)].length = k + 1 from rfl] at o2
                have bV2 : Below w.heap.size w V2 := Below.grown (bV1.alloc bV1.size (.cells #[.int .u32 p.toNat, .int .i64 m, .int .i64 v] 37)) g2 (by have := bV1.size; first | omega | (simp; omega)) (fun j hj => (World.ownsRow.lt (World.ownsRow.alloc o1 (.cells #[.int .u32 p.toNat, .int .i64 m, .int .i64 v] 37)) j hj).1)
                obtain ⟨a2, q2, rfl⟩ := own_slice3 o2
                clear hHeld
                have hHeld := KS.out _ (bV2)
                refine hK.out _ _ (.inr hHeld) ?_
                clear hK K
                try simp only [List.getElem_toArray, List.getElem_cons_zero, List.getElem_cons_succ, Act.put, List.setIfInBounds_toArray, List.set_cons_zero, List.set_cons_succ]
                refine HeldBut.ready (rs := [21]) (by kernel_rfl) (by simp) ?_
                refine AllBut.cons (o := _) rfl (fun K hK => ?_) AllBut.nil
                refine wp_app w.heap.size _ _ rfl (.slice a2 (k + 1) q2) _ rfl rfl _ _ (L.drop k) o2 (SRC3.out _ bV2) (by have := HTL.out; first | omega | (simp only [List.length_cons, List.length_nil]; omega)) (by have := bV2.size; omega) ?_
                intro v3 V3 o3 g3
                rw [show k + 1 + (L.drop k).length = L.length + 1 by have := HTL.out; omega] at o3
                have bV3 : Below w.heap.size w V3 := Below.grown bV2 g3 (by have := bV2.size; omega) (fun j hj => (World.ownsRow.lt o2 j hj).1)
                obtain ⟨a3, q3, rfl⟩ := own_slice3 o3
                clear hHeld
                have hHeld := KS.out _ (bV3)
                refine hK.out _ _ (.inr hHeld) ?_
                clear hK K
                try simp only [List.getElem_toArray, List.getElem_cons_zero, List.getElem_cons_succ, Act.put, List.setIfInBounds_toArray, List.set_cons_zero, List.set_cons_succ]
                refine HeldBut.ready (rs := [22]) (by kernel_rfl) (by simp) ?_
                refine AllBut.cons (o := _) rfl (fun K hK => ?_) AllBut.nil
                go_simp
                clear hHeld
                have hHeld := KS.out _ (bV3)
                refine hK.out _ _ (.inr hHeld) ?_
                clear hK K
                try simp only [List.getElem_toArray, List.getElem_cons_zero, List.getElem_cons_succ, Act.put, List.setIfInBounds_toArray, List.set_cons_zero, List.set_cons_succ]
                refine HeldBut.take (i := 23) (v := ?_) rfl (by kernel_rfl) (by kernel_rfl) (by kernel_rfl) (by kernel_rfl) (fun _ _ _ h => h) (Or.inl ⟨by rfl, ?_⟩) (by assumption) ?_
                rotate_left
                · (intro w hSw; (try dsimp only at hSw); go_simp; try with_reducible rfl)
                try simp only [List.getElem_toArray, List.getElem_cons_zero, List.getElem_cons_succ, Act.put, List.setIfInBounds_toArray, List.set_cons_zero, List.set_cons_succ]
                refine HeldBut.ready (rs := [24]) (by kernel_rfl) (by simp) ?_
                refine AllBut.cons (o := _) rfl (fun K hK => ?_) AllBut.nil
                have rx : V3.heap[xb]? = _ := (bV3.block xb hxl).trans HL.out.blk
                have cx3 : V3.cell? ⟨xb, 0, none⟩ = _ := cell_row rx 0
                have fx3 := frozen_of_row V3 _ 0 _ _ rx
                have FIN : Hid _ := o3
                clear hHeld o3
                go_simp
                refine hK.out _ _ (.inl rfl) ?_
                refine HeldBut.done (by kernel_rfl) ?_ _
                clear hK K
                go_wp2
                go_ret
                refine ⟨rfl, a3, q3, ⟨?_, ⟨?_⟩, HL.out.lo, HLL.out⟩, (Keeps.of_below [xb] bV3).trans (Keeps.setCell _ xb _ _) (by simp)⟩
                · refine (row_setCell rx 0 _).trans ?_
                  rw [len_ins]
                  rfl
                · have := FIN.out
                  rw [len_ins]; have h9 := own_lower hBw (new_row (u := .slice a3 (L.length + 1) q3) HK.out rx this); rw [len_ins] at h9; exact h9
              · go_simp
                clear hHeld
                have hHeld := KS.out _ ((below2 w (.cells #[] 37) (.cells #[.int .u32 p.toNat, .int .i64 m, .int .i64 v] 37)).drew)
                refine hK.out _ _ (.inr hHeld) ?_
                clear hK K
                try simp only [List.getElem_toArray, List.getElem_cons_zero, List.getElem_cons_succ, Act.put, List.setIfInBounds_toArray, List.set_cons_zero, List.set_cons_succ]
                refine HeldBut.ready (rs := [8]) (by kernel_rfl) (by simp) ?_
                refine AllBut.cons (o := _) rfl (fun K hK => ?_) AllBut.nil
                refine wp_app w.heap.size _ _ rfl (.slice (some ⟨w.heap.size, 0, none⟩) 0 0) _ rfl rfl 0 [] (L.take k) (World.ownsRow.alloc (empty_row w w.heap.size (Nat.le_refl _)) (.cells #[.int .u32 p.toNat, .int .i64 m, .int .i64 v] 37)) (SRC1.out _ ((below2 w (.cells #[] 37) (.cells #[.int .u32 p.toNat, .int .i64 m, .int .i64 v] 37)).drew)) (by have := HTL.out; omega) (by first | (simp; done) | (simp; omega) | omega) ?_
                intro v1 V1 o1 g1
                rw [show 0 + (L.take k).length = k by have := HTL.out; omega] at o1
                have bV1 : Below w.heap.size w V1 := Below.grown ((below2 w (.cells #[] 37) (.cells #[.int .u32 p.toNat, .int .i64 m, .int .i64 v] 37)).drew) g1 (by first | (simp; done) | (simp; omega) | omega) (fun j hj => (World.ownsRow.lt (World.ownsRow.alloc (empty_row w w.heap.size (Nat.le_refl _)) (.cells #[.int .u32 p.toNat, .int .i64 m, .int .i64 v] 37)) j hj).1)
                have xc : ∀ j u, (roV [(p, m, v)])[j]? = some u → V1.cell? ((⟨w.heap.size + 1, 0, none⟩ : Addr).add j) = some u := fun j u hu => g1.cell (by have := cells_new3 (w.alloc (.cells #[] 37)) (.int .u32 p.toNat) (.int .i64 m) (.int .i64 v) 37 j u hu; simpa using this) (by simp [Value.ownBlock, plain_add3])
                obtain ⟨a1, q1, rfl⟩ := own_slice3 o1
                clear hHeld
                have hHeld := KS.out _ (bV1)
                refine hK.out _ _ (.inr hHeld) ?_
                clear hK K
                try simp only [List.getElem_toArray, List.getElem_cons_zero, List.getElem_cons_succ, Act.put, List.setIfInBounds_toArray, List.set_cons_zero, List.set_cons_succ]
                refine HeldBut.ready (rs := [14]) (by kernel_rfl) (by simp) ?_
                refine AllBut.cons (o := _) rfl (fun K hK => ?_) AllBut.nil
                refine wp_app w.heap.size _ _ rfl (.slice a1 k q1) _ rfl rfl _ _ [(p, m, v)] (o1) (Or.inr ⟨⟨w.heap.size + 1, 0, none⟩, 1, rfl, xc⟩) (by have := HTL.out; first | omega | (simp only [List.length_cons, List.length_nil]; omega)) (by have := bV1.size; first | omega | (simp; omega)) ?_
                intro v2 V2 o2 g2
                rw [show k + [(p, m, v)].length = k + 1 from rfl] at o2
                have bV2 : Below w.heap.size w V2 := Below.grown (bV1) g2 (by have := bV1.size; first | omega | (simp; omega)) (fun j hj => (World.ownsRow.lt (o1) j hj).1)
                obtain ⟨a2, q2, rfl⟩ := own_slice3 o2
                clear hHeld
                have hHeld := KS.out _ (bV2)
                refine hK.out _ _ (.inr hHeld) ?_
                clear hK K
                try simp only [List.getElem_toArray, List.getElem_cons_zero, List.getElem_cons_succ, Act.put, List.setIfInBounds_toArray, List.set_cons_zero, List.set_cons_succ]
                refine HeldBut.ready (rs := [21]) (by kernel_rfl) (by simp) ?_
                refine AllBut.cons (o := _) rfl (fun K hK => ?_) AllBut.nil
                refine wp_app w.heap.size _ _ rfl (.slice a2 (k + 1) q2) _ rfl rfl _ _ (L.drop k) o2 (SRC3.out _ bV2) (by have := HTL.out; first | omega | (simp only [List.length_cons, List.length_nil]; omega)) (by have := bV2.size; omega) ?_
                intro v3 V3 o3 g3
                rw [show k + 1 + (L.drop k).length = L.length + 1 by have := HTL.out; omega] at o3
                have bV3 : Below w.heap.size w V3 := Below.grown bV2 g3 (by have := bV2.size; omega) (fun j hj => (World.ownsRow.lt o2 j hj).1)
                obtain ⟨a3, q3, rfl⟩ := own_slice3 o3
                clear hHeld
                have hHeld := KS.out _ (bV3)
                refine hK.out _ _ (.inr hHeld) ?_
                clear hK K
                try simp only [List.getElem_toArray, List.getElem_cons_zero, List.getElem_cons_succ, Act.put, List.setIfInBounds_toArray, List.set_cons_zero, List.set_cons_succ]
                refine HeldBut.ready (rs := [22]) (by kernel_rfl) (by simp) ?_
                refine AllBut.cons (o := _) rfl (fun K hK => ?_) AllBut.nil
                go_simp
                clear hHeld
                have hHeld := KS.out _ (bV3)
                refine hK.out _ _ (.inr hHeld) ?_
                clear hK K
                try simp only [List.getElem_toArray, List.getElem_cons_zero, List.getElem_cons_succ, Act.put, List.setIfInBounds_toArray, List.set_cons_zero, List.set_cons_succ]
                refine HeldBut.take (i := 23) (v := ?_) rfl (by kernel_rfl) (by kernel_rfl) (by kernel_rfl) (by kernel_rfl) (fun _ _ _ h => h) (Or.inl ⟨by rfl, ?_⟩) (by assumption) ?_
                rotate_left
                · (intro w hSw; (try dsimp only at hSw); go_simp; try with_reducible rfl)
                try simp only [List.getElem_toArray, List.getElem_cons_zero, List.getElem_cons_succ, Act.put, List.setIfInBounds_toArray, List.set_cons_zero, List.set_cons_succ]
                refine HeldBut.ready (rs := [24]) (by kernel_rfl) (by simp) ?_
                refine AllBut.cons (o := _) rfl (fun K hK => ?_) AllBut.nil
                have rx : V3.heap[xb]? = _ := (bV3.block xb hxl).trans HL.out.blk
                have cx3 : V3.cell? ⟨xb, 0, none⟩ = _ := cell_row rx 0
                have fx3 := frozen_of_row V3 _ 0 _ _ rx
                have FIN : Hid _ := o3
                clear hHeld o3
                go_simp
                refine hK.out _ _ (.inl rfl) ?_
                refine HeldBut.done (by kernel_rfl) ?_ _
                clear hK K
                go_wp2
                go_ret
                refine ⟨rfl, a3, q3, ⟨?_, ⟨?_⟩, HL.out.lo, HLL.out⟩, (Keeps.of_below [xb] bV3).trans (Keeps.setCell _ xb _ _) (by simp)⟩
                · refine (row_setCell rx 0 _).trans ?_
                  rw [len_ins]
                  rfl
                · have := FIN.out
                  rw [len_ins]; have h9 := own_lower hBw (new_row (u := .slice a3 (L.length + 1) q3) HK.out rx this); rw [len_ins] at h9; exact h9
            · go_simp
              clear hHeld
              have hHeld := KS.out _ ((below1 w (.cells #[.int .u32 p.toNat, .int .i64 m, .int .i64 v] 37)).drew)
              refine hK.out _ _ (.inr hHeld) ?_
              clear hK K
              try simp only [List.getElem_toArray, List.getElem_cons_zero, List.getElem_cons_succ, Act.put, List.setIfInBounds_toArray, List.set_cons_zero, List.set_cons_succ]
              refine HeldBut.ready (rs := [1]) (by kernel_rfl) (by simp) ?_
              refine AllBut.cons (o := _) rfl (fun K hK => ?_) AllBut.nil
              go_simp
              clear hHeld
              have hHeld := KS.out _ ((below2 w (.cells #[.int .u32 p.toNat, .int .i64 m, .int .i64 v] 37) (.cells #[] 37)).drew)
              refine hK.out _ _ (.inr hHeld) ?_
              clear hK K
              try simp only [List.getElem_toArray, List.getElem_cons_zero, List.getElem_cons_succ, Act.put, List.setIfInBounds_toArray, List.set_cons_zero, List.set_cons_succ]
              refine HeldBut.ready (rs := [8]) (by kernel_rfl) (by simp) ?_
              refine AllBut.cons (o := _) rfl (fun K hK => ?_) AllBut.nil
              refine wp_app w.heap.size _ _ rfl (.slice (some ⟨w.heap.size + 1, 0, none⟩) 0 0) _ rfl rfl 0 [] (L.take k) (empty_rowE (w.alloc (.cells #[.int .u32 p.toNat, .int .i64 m, .int .i64 v] 37)) w.heap.size (w.heap.size + 1) (by simp) (by simp)) (SRC1.out _ ((below2 w (.cells #[.int .u32 p.toNat, .int .i64 m, .int .i64 v] 37) (.cells #[] 37)).drew)) (by have := HTL.out; omega) (by first | (simp; done) | (simp; omega) | omega) ?_
              intro v1 V1 o1 g1
              rw [show 0 + (L.take k).length = k by have := HTL.out; omega] at o1
              have bV1 : Below w.heap.size w V1 := Below.grown ((below2 w (.cells #[.int .u32 p.toNat, .int .i64 m, .int .i64 v] 37) (.cells #[] 37)).drew) g1 (by first | (simp; done) | (simp; omega) | omega) (fun j hj => (World.ownsRow.lt (empty_rowE (w.alloc (.cells #[.int .u32 p.toNat, .int .i64 m, .int .i64 v] 37)) w.heap.size (w.heap.size + 1) (by simp) (by simp)) j hj).1)
              have xc : ∀ j u, (roV [(p, m, v)])[j]? = some u → V1.cell? ((⟨w.heap.size, 0, none⟩ : Addr).add j) = some u := fun j u hu => g1.cell (by have := cells_new3 w (.int .u32 p.toNat) (.int .i64 m) (.int .i64 v) 37 j u hu; rw [plain_add3] at this ⊢; exact ((below1 (w.alloc (.cells #[.int .u32 p.toNat, .int .i64 m, .int .i64 v] 37)) (.cells #[] 37)).cell (p := ⟨w.heap.size, 0 + j, none⟩) (by simp)).trans this) (by simp [Value.ownBlock, plain_add3])
              obtain ⟨a1, q1, rfl⟩ := own_slice3 o1
              clear hHeld
              have hHeld := KS.out _ (bV1)
              refine hK.out _ _ (.inr hHeld) ?_
              clear hK K
              try simp only [List.getElem_toArray, List.getElem_cons_zero, List.getElem_cons_succ, Act.put, List.setIfInBounds_toArray, List.set_cons_zero, List.set_cons_succ]
              refine HeldBut.ready (rs := [14]) (by kernel_rfl) (by simp) ?_
              refine AllBut.cons (o := _) rfl (fun K hK => ?_) AllBut.nil
              refine wp_app w.heap.size _ _ rfl (.slice a1 k q1) _ rfl rfl _ _ [(p, m, v)] (o1) (Or.inr ⟨⟨w.heap.size, 0, none⟩, 1, rfl, xc⟩) (by have := HTL.out; first | omega | (simp only [List.length_cons, List.length_nil]; omega)) (by have := bV1.size; first | omega | (simp; omega)) ?_
              intro v2 V2 o2 g2
              rw [show k + [(p, m, v)].length = k + 1 from rfl] at o2
              have bV2 : Below w.heap.size w V2 := Below.grown (bV1) g2 (by have := bV1.size; first | omega | (simp; omega)) (fun j hj => (World.ownsRow.lt (o1) j hj).1)
              obtain ⟨a2, q2, rfl⟩ := own_slice3 o2
              clear hHeld
              have hHeld := KS.out _ (bV2)
              refine hK.out _ _ (.inr hHeld) ?_
              clear hK K
              try simp only [List.getElem_toArray, List.getElem_cons_zero, List.getElem_cons_succ, Act.put, List.setIfInBounds_toArray, List.set_cons_zero, List.set_cons_succ]
              refine HeldBut.ready (rs := [21]) (by kernel_rfl) (by simp) ?_
              refine AllBut.cons (o := _) rfl (fun K hK => ?_) AllBut.nil
              refine wp_app w.heap.size _ _ rfl (.slice a2 (k + 1) q2) _ rfl rfl _ _ (L.drop k) o2 (SRC3.out _ bV2) (by have := HTL.out; first | omega | (simp only [List.length_cons, List.length_nil]; omega)) (by have := bV2.size; omega) ?_
              intro v3 V3 o3 g3
              rw [show k + 1 + (L.drop k).length = L.length + 1 by have := HTL.out; omega] at o3
              have bV3 : Below w.heap.size w V3 := Below.grown bV2 g3 (by have := bV2.size; omega) (fun j hj => (World.ownsRow.lt o2 j hj).1)
              obtain ⟨a3, q3, rfl⟩ := own_slice3 o3
              clear hHeld
              have hHeld := KS.out _ (bV3)
              refine hK.out _ _ (.inr hHeld) ?_
              clear hK K
              try simp only [List.getElem_toArray, List.getElem_cons_zero, List.getElem_cons_succ, Act.put, List.setIfInBounds_toArray, List.set_cons_zero, List.set_cons_succ]
              refine HeldBut.ready (rs := [22]) (by kernel_rfl) (by simp) ?_
              refine AllBut.cons (o := _) rfl (fun K hK => ?_) AllBut.nil
              go_simp
              clear hHeld
              have hHeld := KS.out _ (bV3)
              refine hK.out _ _ (.inr hHeld) ?_
              clear hK K
              try simp only [List.getElem_toArray, List.getElem_cons_zero, List.getElem_cons_succ, Act.put, List.setIfInBounds_toArray, List.set_cons_zero, List.set_cons_succ]
              refine HeldBut.take (i := 23) (v := ?_) rfl (by kernel_rfl) (by kernel_rfl) (by kernel_rfl) (by kernel_rfl) (fun _ _ _ h => h) (Or.inl ⟨by rfl, ?_⟩) (by assumption) ?_
              rotate_left
              · (intro w hSw; (try dsimp only at hSw); go_simp; try with_reducible rfl)
              try simp only [List.getElem_toArray, List.getElem_cons_zero, List.getElem_cons_succ, Act.put, List.setIfInBounds_toArray, List.set_cons_zero, List.set_cons_succ]
              refine HeldBut.ready (rs := [24]) (by kernel_rfl) (by simp) ?_
              refine AllBut.cons (o := _) rfl (fun K hK => ?_) AllBut.nil
              have rx : V3.heap[xb]? = _ := (bV3.block xb hxl).trans HL.out.blk
              have cx3 : V3.cell? ⟨xb, 0, none⟩ = _ := cell_row rx 0
              have fx3 := frozen_of_row V3 _ 0 _ _ rx
              have FIN : Hid _ := o3
              clear hHeld o3
              go_simp
              refine hK.out _ _ (.inl rfl) ?_
              refine HeldBut.done (by kernel_rfl) ?_ _
              clear hK K
              go_wp2
              go_ret
              refine ⟨rfl, a3, q3, ⟨?_, ⟨?_⟩, HL.out.lo, HLL.out⟩, (Keeps.of_below [xb] bV3).trans (Keeps.setCell _ xb _ _) (by simp)⟩
              · refine (row_setCell rx 0 _).trans ?_
                rw [len_ins]
                rfl
              · have := FIN.out
                rw [len_ins]; have h9 := own_lower hBw (new_row (u := .slice a3 (L.length + 1) q3) HK.out rx this); rw [len_ins] at h9; exact h9
end Go.Proofs.Ytlopnagajhjmmaa
