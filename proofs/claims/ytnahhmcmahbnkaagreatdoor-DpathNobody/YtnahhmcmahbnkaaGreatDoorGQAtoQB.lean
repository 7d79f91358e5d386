/- The order of rules: cmp.Compare, cmp.Or, inOrder; New, isMade. Conditions: as said. -/
import Derived.Test.YtnahhmcmahbnkaaGreatDoorGMDtoMI
import Derived.Lib.Hide
import Derived.MapKept
import Derived.WideKeyRuns
namespace Go.Proofs.YtnahhmcmahbnkaaGreatDoor
open Go.RowKit
def cmpI (x y : Int) : Int := if x < y then -1 else if y < x then 1 else 0
def orI : List Int → Int
  | [] => 0
  | c :: r => if c = 0 then orI r else c
theorem isNaN_int (x : Int) (w : World) : Calls Tryz.prog 53 #[.int .i64 x] w fun e w' => e = .returned (.bool false) ∧ w' = w := by
  go_enter Tryz.func53, Tryz.ntmps53
  go_wp2
  go_ret
  exact ⟨by simp, rfl⟩
set_option linter.unusedSimpArgs false in
set_option maxRecDepth 20000 in
theorem compare_int (x y : Int) (w : World) : Calls Tryz.prog 31 #[.int .i64 x, .int .i64 y] w fun e w' => e = .returned (.int .i64 (cmpI x y)) ∧ w' = w := by
  have h1 := isNaN_int x w
  have h2 := isNaN_int y w
  unfold cmpI
  by_cases d1 : x < y
  all_goals by_cases d2 : y < x
  all_goals try (exfalso; omega)
  all_goals go_enter Tryz.func31, Tryz.ntmps31
  all_goals go_wp2_with (go_at_call 53; first | (refine h1.mono ?_; rintro e w' ⟨rfl, rfl⟩) | (refine h2.mono ?_; rintro e w' ⟨rfl, rfl⟩) | fail)
  all_goals go_ret
  all_goals exact ⟨by simp [d1, d2], rfl⟩
set_option maxRecDepth 20000 in
set_option maxHeartbeats 2000000 in
theorem or2_any (c0 c1 : Int) (g : Nat) (w : World) (h0 : w.cell? ⟨g, 0, none⟩ = some (.int .i64 c0)) (h1 : w.cell? ⟨g, 1, none⟩ = some (.int .i64 c1)) :
    Calls Tryz.prog 30 #[.slice (some ⟨g, 0, none⟩) 2 2] w fun e w' => e = .returned (.int .i64 (orI [c0, c1])) ∧ w' = w := by
  by_cases d0 : c0 = 0
  rotate_left
  · go_enter Tryz.func30, Tryz.ntmps30
    go_wp2
    go_rounds 1
    all_goals go_wp2
    all_goals go_ret
    all_goals exact ⟨by simp [orI, d0], rfl⟩
  by_cases d1 : c1 = 0
  · go_enter Tryz.func30, Tryz.ntmps30
    go_wp2
    go_rounds 3
    all_goals go_wp2
    all_goals go_ret
    all_goals exact ⟨by simp [orI, d0, d1], rfl⟩
  · go_enter Tryz.func30, Tryz.ntmps30
    go_wp2
    go_rounds 2
    all_goals go_wp2
    all_goals go_ret
    all_goals exact ⟨by simp [orI, d0, d1], rfl⟩
/-- A rule by its cells. -/
abbrev ruC (p : Int) (s : Value) (id : Int) : Array Value := #[.int .i64 p, s, .int .i64 id]
/-- The order of two rules. -/
def ordI (p a q b : Int) : Int := orI [cmpI q p, cmpI a b]
set_option linter.unusedSimpArgs false in
set_option maxRecDepth 20000 in
set_option maxRecDepth 20000 in
set_option maxHeartbeats 4000000 in
theorem inOrder_any (p a q b : Int) (s t : Value) (w : World) : Calls Tryz.prog 65 #[.agg (ruC p s a), .agg (ruC q t b)] w fun e w' => e = .returned (.int .i64 (ordI p a q b)) ∧ Below w.heap.size w w' := by
  have KC : Hid (∀ W, (∃ n, W = ((w.alloc (.cells (ruC p s a) 106)).alloc (.cells (ruC q t b) 106)).drewN n ∨ ∃ o, W = (((w.alloc (.cells (ruC p s a) 106)).alloc (.cells (ruC q t b) 106)).alloc o).drew) → W.cell? ⟨w.heap.size, 0, none⟩ = some (.int .i64 p) ∧ W.cell? ⟨w.heap.size, 2, none⟩ = some (.int .i64 a) ∧
      W.cell? ⟨w.heap.size + 1, 0, none⟩ = some (.int .i64 q) ∧ W.cell? ⟨w.heap.size + 1, 2, none⟩ = some (.int .i64 b)) := by
    show ∀ W, _
    rintro W ⟨n, hq⟩
    have x := two_first w (.cells (ruC p s a) 106) (.cells (ruC q t b) 106)
    have y := two_last w (.cells (ruC p s a) 106) (.cells (ruC q t b) 106)
    have x' : W.heap[w.heap.size]? = some (.cells (ruC p s a) 106 (0, 0)) := by
      rcases hq with rfl | ⟨o, rfl⟩
      · exact x
      · exact (heap_alloc_old ((w.alloc (.cells (ruC p s a) 106)).alloc (.cells (ruC q t b) 106)) o (lt_of_heap x)).trans x
    have y' : W.heap[w.heap.size + 1]? = some (.cells (ruC q t b) 106 (0, 0)) := by
      rcases hq with rfl | ⟨o, rfl⟩
      · exact y
      · exact (heap_alloc_old ((w.alloc (.cells (ruC p s a) 106)).alloc (.cells (ruC q t b) 106)) o (lt_of_heap y)).trans y
    exact ⟨cell_row x' 0, cell_row x' 2, cell_row y' 0, cell_row y' 2⟩
  have HOR : Hid (∀ c0 c1, Calls Tryz.prog 30 #[.slice (some ⟨w.heap.size + 1 + 1, 0, none⟩) 2 2] ((((w.alloc (.cells (ruC p s a) 106)).alloc (.cells (ruC q t b) 106)).alloc (.cells #[.int .i64 c0, .int .i64 c1] 3)).drew) fun e w' => e = .returned (.int .i64 (orI [c0, c1])) ∧ w' = (((w.alloc (.cells (ruC p s a) 106)).alloc (.cells (ruC q t b) 106)).alloc (.cells #[.int .i64 c0, .int .i64 c1] 3)).drew) := by
    show ∀ c0 c1, _
    intro c0 c1
    have h := heap_alloc_new ((w.alloc (.cells (ruC p s a) 106)).alloc (.cells (ruC q t b) 106)) (.cells #[.int .i64 c0, .int .i64 c1] 3)
    rw [show ((w.alloc (.cells (ruC p s a) 106)).alloc (.cells (ruC q t b) 106)).heap.size = w.heap.size + 1 + 1 by simp] at h
    have h' : (((w.alloc (.cells (ruC p s a) 106)).alloc (.cells (ruC q t b) 106)).alloc (.cells #[.int .i64 c0, .int .i64 c1] 3)).drew.heap[w.heap.size + 1 + 1]? = _ := h
    exact or2_any c0 c1 (w.heap.size + 1 + 1) _ (cell_row h' 0) (cell_row h' 1)
  unfold ordI
  go_enter Tryz.func65, Tryz.ntmps65
  go_wp2_with fail
  refine wp_region_held_drew (S := (fun W => W.cell? ⟨w.heap.size, 0, none⟩ = some (.int .i64 p) ∧ W.cell? ⟨w.heap.size, 2, none⟩ = some (.int .i64 a) ∧ W.cell? ⟨w.heap.size + 1, 0, none⟩ = some (.int .i64 q) ∧ W.cell? ⟨w.heap.size + 1, 2, none⟩ = some (.int .i64 b))) (by kernel_rfl) ?_ (fun hHeld => ?_)
  · exact KC.out _ ⟨1, .inl rfl⟩
  refine wpAnyH_take (i := 0) (v := ?_) rfl (by kernel_rfl) (by kernel_rfl) (by kernel_rfl) (fun _ _ _ h => h) (Or.inl ⟨by rfl, ?_⟩) (by assumption) ?_
  rotate_left
  · (intro w hSw; (try dsimp only at hSw); go_simp; try with_reducible rfl)
  try simp only [List.getElem_toArray, List.getElem_cons_zero, List.getElem_cons_succ, Act.put, List.setIfInBounds_toArray, List.set_cons_zero, List.set_cons_succ]
  refine wpAnyH_take (i := 1) (v := ?_) rfl (by kernel_rfl) (by kernel_rfl) (by kernel_rfl) (fun _ _ _ h => h) (Or.inl ⟨by rfl, ?_⟩) (by assumption) ?_
  rotate_left
  · (intro w hSw; (try dsimp only at hSw); go_simp; try with_reducible rfl)
  try simp only [List.getElem_toArray, List.getElem_cons_zero, List.getElem_cons_succ, Act.put, List.setIfInBounds_toArray, List.set_cons_zero, List.set_cons_succ]
  refine wpAnyH_take (i := 2) (v := ?_) rfl (by kernel_rfl) (by kernel_rfl) (by kernel_rfl) (fun _ _ _ h => h) (Or.inl ⟨by rfl, ?_⟩) (by assumption) ?_
  rotate_left
  · (intro w hSw; (try dsimp only at hSw); go_simp; try with_reducible rfl)
  try simp only [List.getElem_toArray, List.getElem_cons_zero, List.getElem_cons_succ, Act.put, List.setIfInBounds_toArray, List.set_cons_zero, List.set_cons_succ]
  refine wpAnyH_take (i := 3) (v := ?_) rfl (by kernel_rfl) (by kernel_rfl) (by kernel_rfl) (fun _ _ _ h => h) (Or.inl ⟨by rfl, ?_⟩) (by assumption) ?_
  rotate_left
  · (intro w hSw; (try dsimp only at hSw); go_simp; try with_reducible rfl)
  try simp only [List.getElem_toArray, List.getElem_cons_zero, List.getElem_cons_succ, Act.put, List.setIfInBounds_toArray, List.set_cons_zero, List.set_cons_succ]
  refine wpAnyH_take (i := 5) (v := ?_) rfl (by kernel_rfl) (by kernel_rfl) (by kernel_rfl) (fun _ _ _ h => h) (Or.inl ⟨by rfl, ?_⟩) (by assumption) ?_
  rotate_left
  · (intro w hSw; (try dsimp only at hSw); go_simp; try with_reducible rfl)
  try simp only [List.getElem_toArray, List.getElem_cons_zero, List.getElem_cons_succ, Act.put, List.setIfInBounds_toArray, List.set_cons_zero, List.set_cons_succ]
  refine wpAnyH_take (i := 6) (v := ?_) rfl (by kernel_rfl) (by kernel_rfl) (by kernel_rfl) (fun _ _ _ h => h) (Or.inl ⟨by rfl, ?_⟩) (by assumption) ?_
  rotate_left
  · (intro w hSw; (try dsimp only at hSw); go_simp; try with_reducible rfl)
  try simp only [List.getElem_toArray, List.getElem_cons_zero, List.getElem_cons_succ, Act.put, List.setIfInBounds_toArray, List.set_cons_zero, List.set_cons_succ]
  refine wpAnyH_take (i := 7) (v := ?_) rfl (by kernel_rfl) (by kernel_rfl) (by kernel_rfl) (fun _ _ _ h => h) (Or.inl ⟨by rfl, ?_⟩) (by assumption) ?_
  rotate_left
  · (intro w hSw; (try dsimp only at hSw); go_simp; try with_reducible rfl)
  try simp only [List.getElem_toArray, List.getElem_cons_zero, List.getElem_cons_succ, Act.put, List.setIfInBounds_toArray, List.set_cons_zero, List.set_cons_succ]
  refine wpAnyH_take (i := 8) (v := ?_) rfl (by kernel_rfl) (by kernel_rfl) (by kernel_rfl) (fun _ _ _ h => h) (Or.inl ⟨by rfl, ?_⟩) (by assumption) ?_
  rotate_left
  · (intro w hSw; (try dsimp only at hSw); go_simp; try with_reducible rfl)
  try simp only [List.getElem_toArray, List.getElem_cons_zero, List.getElem_cons_succ, Act.put, List.setIfInBounds_toArray, List.set_cons_zero, List.set_cons_succ]
  refine wpAnyH_ready (rs := [4]) (by kernel_rfl) (by simp) ?_
  refine AllReadyH.cons (o := _) rfl (fun K hK => ?_) AllReadyH.nil
  go_simp
  refine (compare_int _ _ _).mono ?_
  rintro e Wp ⟨rfl, hwp⟩
  rw [hwp]
  clear hwp
  go_wp2_with fail
  refine hK.out _ _ (KC.out _ ⟨1, .inl rfl⟩) (fun hHeld2 => ?_)
  clear hK K hHeld
  have hHeld := hHeld2
  clear hHeld2
  try simp only [List.getElem_toArray, List.getElem_cons_zero, List.getElem_cons_succ, Act.put, List.setIfInBounds_toArray, List.set_cons_zero, List.set_cons_succ]
  refine wpAnyH_ready (rs := [9]) (by kernel_rfl) (by simp) ?_
  refine AllReadyH.cons (o := _) rfl (fun K hK => ?_) AllReadyH.nil
  go_simp
  refine (compare_int _ _ _).mono ?_
  rintro e Wp ⟨rfl, hwp⟩
  rw [hwp]
  clear hwp
  go_wp2_with fail
  refine hK.out _ _ (KC.out _ ⟨1, .inl rfl⟩) (fun hHeld2 => ?_)
  clear hK K hHeld
  have hHeld := hHeld2
  clear hHeld2
  try simp only [List.getElem_toArray, List.getElem_cons_zero, List.getElem_cons_succ, Act.put, List.setIfInBounds_toArray, List.set_cons_zero, List.set_cons_succ]
  refine wpAnyH_ready (rs := [10]) (by kernel_rfl) (by simp) ?_
  refine AllReadyH.cons (o := _) rfl (fun K hK => ?_) AllReadyH.nil
  go_simp
  refine hK.out _ _ (KC.out _ ⟨0, .inr ⟨_, rfl⟩⟩) (fun hHeld2 => ?_)
  clear hK K hHeld
  have hHeld := hHeld2
  clear hHeld2
  try simp only [List.getElem_toArray, List.getElem_cons_zero, List.getElem_cons_succ, Act.put, List.setIfInBounds_toArray, List.set_cons_zero, List.set_cons_succ]
  refine wpAnyH_ready (rs := [11]) (by kernel_rfl) (by simp) ?_
  refine AllReadyH.cons (o := _) rfl (fun K hK => ?_) AllReadyH.nil
  go_simp
  refine (HOR.out _ _).mono ?_
  rintro e Wp ⟨rfl, hwp⟩
  rw [hwp]
  clear hwp
  go_wp2_with fail
  refine hK.out _ _ (KC.out _ ⟨0, .inr ⟨_, rfl⟩⟩) (fun hHeld2 => ?_)
  clear hK K hHeld
  have hHeld := hHeld2
  clear hHeld2
  try simp only [List.getElem_toArray, List.getElem_cons_zero, List.getElem_cons_succ, Act.put, List.setIfInBounds_toArray, List.set_cons_zero, List.set_cons_succ]
  refine wpAnyH_take (i := 12) (v := ?_) rfl (by kernel_rfl) (by kernel_rfl) (by kernel_rfl) (fun _ _ _ h => h) (Or.inl ⟨by rfl, ?_⟩) (by assumption) ?_
  rotate_left
  · (intro w hSw; (try dsimp only at hSw); go_simp; try with_reducible rfl)
  try simp only [List.getElem_toArray, List.getElem_cons_zero, List.getElem_cons_succ, Act.put, List.setIfInBounds_toArray, List.set_cons_zero, List.set_cons_succ]
  clear hHeld
  refine wpAnyH_done (by kernel_rfl) ?_ _
  go_wp2
  go_ret
  exact ⟨rfl, (below3 w _ _ _).drew⟩
theorem eql_pclass (a : Addr) (W : World) : (binOp .eql 78 (.pointer (some a)) (.pointer none)).run Tryz.prog W = .ok (.bool false) W := by
  first | kernel_rfl | simp [binOp, go_sem]
theorem neq_pclass (a : Addr) (W : World) : (binOp .neq 78 (.pointer (some a)) (.pointer none)).run Tryz.prog W = .ok (.bool true) W := by
  first | kernel_rfl | simp [binOp, go_sem]
theorem neq_pclass0 (W : World) : (binOp .neq 78 (.pointer none) (.pointer none)).run Tryz.prog W = .ok (.bool false) W := by
  first | kernel_rfl | simp [binOp, go_sem]
theorem neq_rmap (r : Nat) (W : World) : (binOp .neq 142 (.map (some r)) (.map none)).run Tryz.prog W = .ok (.bool true) W := by
  first | kernel_rfl | simp [binOp, go_sem]
/-- A classifier by its cells. -/
abbrev clC (rb tb : Nat) : Array Value := #[.map (some rb), .map (some tb)]
set_option maxRecDepth 20000 in
set_option maxHeartbeats 1000000 in
theorem isMade_yes {cb rb tb : Nat} {w : World} (h : w.heap[cb]? = some (.cells (clC rb tb) 145 (0, 0))) : Calls Tryz.prog 55 #[.pointer (some ⟨cb, 0, none⟩)] w fun e w' => e = .returned (.bool true) ∧ w' = w := by
  have h1 := neq_pclass
  have h2 := neq_rmap rb
  have c0 : w.cell? ⟨cb, 0, none⟩ = some (.map (some rb)) := cell_row h 0
  clear h
  go_enter Tryz.func55, Tryz.ntmps55
  go_wp2
  go_ret
  exact ⟨rfl, rfl⟩
set_option maxRecDepth 20000 in
set_option maxHeartbeats 1000000 in
theorem isMade_no (w : World) : Calls Tryz.prog 55 #[.pointer none] w fun e w' => e = .returned (.bool false) ∧ w' = w := by
  have h1 := neq_pclass0
  go_enter Tryz.func55, Tryz.ntmps55
  go_wp2
  go_ret
  exact ⟨rfl, rfl⟩
set_option maxRecDepth 20000 in
set_option maxHeartbeats 1000000 in
theorem new_any (w : World) : Calls Tryz.prog 33 #[] w fun e w' => e = .returned (.pointer (some ⟨w.heap.size + 1 + 1, 0, none⟩)) ∧ w' = ((w.alloc (.map #[] 0)).alloc (.map #[] 0)).alloc (.cells (clC w.heap.size (w.heap.size + 1)) 145) := by
  have hmm := @run_makeMap Tryz.prog
  go_enter Tryz.func33, Tryz.ntmps33
  go_wp2
  go_ret
  exact ⟨rfl, rfl⟩
end Go.Proofs.YtnahhmcmahbnkaaGreatDoor
/- Maps under whole numbers and under texts: looking up, storing. Plain laws; no condition. -/
namespace Go.Proofs.YtnahhmcmahbnkaaGreatDoor
open Go.RowKit
/-- A world in which one block holds another object. -/
def putObj (w : World) (r : Nat) (o : Obj) : World := { w with heap := w.heap.setIfInBounds r o }
theorem putObj_same {w : World} {r : Nat} (h : r < w.heap.size) (o : Obj) : (putObj w r o).heap[r]? = some o := by
  unfold putObj; exact Array.getElem?_setIfInBounds_self_of_lt h
theorem putObj_other (w : World) {r k : Nat} (h : k ≠ r) (o : Obj) : (putObj w r o).heap[k]? = w.heap[k]? := by
  unfold putObj; exact Array.getElem?_setIfInBounds_ne (fun e => h e.symm)
theorem putObj_size (w : World) (r : Nat) (o : Obj) : (putObj w r o).heap.size = w.heap.size := by simp [putObj]
theorem putObj_below (w : World) (r : Nat) (o : Obj) : Below r w (putObj w r o) := ⟨rfl, rfl, rfl, by rw [putObj_size]; exact Nat.le_refl _, fun k hk => putObj_other w (by omega) o⟩
section
variable {K : Type} [DecidableEq K]
/-- The entries of a map: key, value, stamp. -/
def entG (kv : K → Value) (l : List (K × Value × Nat)) : List MapEntry := l.map fun x => { key := kv x.1, val := x.2.1, born := x.2.2 }
def findG (t : K) : List (K × Value × Nat) → Nat → Option (Nat × Value)
  | [], _ => none
  | x :: r, i => if t = x.1 then some (i, x.2.1) else findG t r (i + 1)
/-- What the model does with keys of a type. -/
structure KeyK (KT : TypeId) (kv : K → Value) : Prop where
  check : ∀ e t W, (Instr.checkKey e 10000 KT (kv t)).run Tryz.prog W = .ok () W
  find : ∀ t l W, (Instr.findKey KT (kv t) (entG kv l)).run Tryz.prog W = .ok (findG t l 0) W
  stays : ∀ t W, (Instr.keyThatStays (kv t) (kv t)).run Tryz.prog W = .ok (kv t) W
variable {KT MT ET : TypeId} {kv : K → Value}
theorem look_any (hK : KeyK KT kv) (hu : Tryz.prog.underlying MT = some (.map KT ET)) (z : Value) (hz : ∀ W, (zeroValue ET).run Tryz.prog W = .ok z W) {w : World} {r c : Nat} {l : List (K × Value × Nat)} (hb : w.heap[r]? = some (.map (entG kv l).toArray c)) (t : K) :
    (Instr.lookup MT (.map (some r)) (kv t) false).run Tryz.prog w = .ok (((findG t l 0).map (·.2)).getD z) w := by
  simp only [Instr.lookup, Sem.run_bind, run_underlying hu, Result.andThen_ok, MapKept.run_getObj_map hb, Sem.run_pure, hK.check, hK.find]
  cases findG t l 0 <;> simp [hz]
theorem look_ok (hK : KeyK KT kv) (hu : Tryz.prog.underlying MT = some (.map KT ET)) (z : Value) (hz : ∀ W, (zeroValue ET).run Tryz.prog W = .ok z W) {w : World} {r c : Nat} {l : List (K × Value × Nat)} (hb : w.heap[r]? = some (.map (entG kv l).toArray c)) (t : K) :
    (Instr.lookup MT (.map (some r)) (kv t) true).run Tryz.prog w = .ok (.tuple #[((findG t l 0).map (·.2)).getD z, .bool (findG t l 0).isSome]) w := by
  simp only [Instr.lookup, Sem.run_bind, run_underlying hu, Result.andThen_ok, MapKept.run_getObj_map hb, Sem.run_pure, hK.check, hK.find]
  cases findG t l 0 <;> simp [hz]
theorem put_new (hK : KeyK KT kv) (hu : Tryz.prog.underlying MT = some (.map KT ET)) {w : World} {r c : Nat} {l : List (K × Value × Nat)} (hb : w.heap[r]? = some (.map (entG kv l).toArray c)) (t : K) (hf : findG t l 0 = none) (v : Value) :
    (Instr.mapUpdate MT (.map (some r)) (kv t) v).run Tryz.prog w = .ok () (putObj w r (.map (entG kv (l ++ [(t, v, c)])).toArray (c + 1))) := by
  simp only [Instr.mapUpdate, Sem.run_bind, run_underlying hu, Result.andThen_ok, MapKept.run_getObj_map hb, hK.check, hK.find, hf, MapKept.run_setObj_map _ hb]
  simp [entG, putObj]
/-- The entries with another value under a key that is there. -/
def setG (t : K) (v : Value) : List (K × Value × Nat) → List (K × Value × Nat)
  | [] => []
  | x :: r => if t = x.1 then (x.1, v, x.2.2) :: r else x :: setG t v r
theorem findG_at {t : K} : ∀ {l : List (K × Value × Nat)} {i0 i : Nat} {v : Value}, findG t l i0 = some (i, v) → ∃ b, i0 ≤ i ∧ l[i - i0]? = some (t, v, b)
  | [], _, _, _, h => by simp [findG] at h
  | x :: r, i0, i, v, h => by
    unfold findG at h
    by_cases e : t = x.1
    · rw [if_pos e] at h; cases h
      exact ⟨x.2.2, Nat.le_refl _, by simp [e]⟩
    · rw [if_neg e] at h
      obtain ⟨b, h1, h2⟩ := findG_at h
      refine ⟨b, by omega, ?_⟩
      rw [show i - i0 = (i - (i0 + 1)) + 1 from by omega]; simpa using h2
theorem setG_eq {t : K} {v u : Value} : ∀ {l : List (K × Value × Nat)} {i0 i : Nat}, findG t l i0 = some (i, u) → (entG kv l).modify (i - i0) (fun e => { e with key := kv t, val := v }) = entG kv (setG t v l)
  | [], _, _, h => by simp [findG] at h
  | x :: r, i0, i, h => by
    unfold findG at h
    by_cases e : t = x.1
    · rw [if_pos e] at h; cases h
      simp [entG, setG, e]
    · rw [if_neg e] at h
      obtain ⟨b, h1, _⟩ := findG_at h
      have ih := setG_eq (v := v) h
      rw [show i - i0 = (i - (i0 + 1)) + 1 from by omega]
      simp only [entG, List.map_cons, setG, if_neg e, List.modify_succ_cons]
      congr 1
theorem put_old (hK : KeyK KT kv) (hu : Tryz.prog.underlying MT = some (.map KT ET)) {w : World} {r c : Nat} {l : List (K × Value × Nat)} (hb : w.heap[r]? = some (.map (entG kv l).toArray c)) (t : K) {i : Nat} {u : Value} (hf : findG t l 0 = some (i, u)) (v : Value) :
    (Instr.mapUpdate MT (.map (some r)) (kv t) v).run Tryz.prog w = .ok () (putObj w r (.map (entG kv (setG t v l)).toArray c)) := by
  obtain ⟨b, _, h2⟩ := findG_at hf
  have h2' : l[i]? = some (t, u, b) := by simpa using h2
  have he : (((entG kv l).toArray[i]?).map (·.key)).getD (kv t) = kv t := by simp [entG, h2']
  have hm : (entG kv l).toArray.modify i (fun e => { e with key := kv t, val := v }) = (entG kv (setG t v l)).toArray := by
    have := setG_eq (kv := kv) (v := v) hf
    apply Array.toList_inj.1
    simpa using this
  simp only [Instr.mapUpdate, Sem.run_bind, run_underlying hu, Result.andThen_ok, MapKept.run_getObj_map hb, hK.check, hK.find, hf, he, hK.stays, hm, MapKept.run_setObj_map _ hb]
  simp [putObj]
theorem findG_none {t : K} : ∀ {l : List (K × Value × Nat)} {i : Nat}, findG t l i = none ↔ t ∉ l.map (·.1)
  | [], _ => by simp [findG]
  | x :: r, i => by
    unfold findG
    by_cases e : t = x.1
    · simp [e]
    · rw [if_neg e, findG_none]; simp [e]
theorem setG_keys (t : K) (v : Value) : ∀ (l : List (K × Value × Nat)), (setG t v l).map (·.1) = l.map (·.1) ∧ (setG t v l).map (·.2.2) = l.map (·.2.2)
  | [] => ⟨rfl, rfl⟩
  | x :: r => by
    unfold setG
    by_cases e : t = x.1
    · simp [e]
    · rw [if_neg e]
      have := setG_keys t v r
      exact ⟨by simp [this.1], by simp [this.2]⟩
end
def iv (z : Int) : Value := .int .i64 z
theorem now_int (t : Int) : ∀ (l : List (Int × Value × Nat)) (i : Nat), Instr.findNow (.int .i64) (iv t) (entG iv l) i = some (findG t l i)
  | [], i => rfl
  | x :: r, i => by
    have ih := now_int t r (i + 1)
    simp only [entG, List.map_cons, Instr.findNow, iv, Instr.sameNow, findG, if_pos]
    by_cases h : t = x.1
    · simp [h]
    · have h' : (t == x.1) = false := by simp [h]
      rw [h', if_neg h]; exact ih
theorem intK : KeyK 3 iv := ⟨fun e t W => MapKept.run_checkKey Tryz.underlying3 (by simp [MapKept.IsKey, iv]) e 9999, fun t l W => MapKept.run_findKey Tryz.underlying3 (now_int t l 0), fun t W => by simp [Instr.keyThatStays, Instr.sameBits, iv]⟩
def sv (s : ByteArray) : Value := .string s
theorem now_str (t : ByteArray) : ∀ (l : List (ByteArray × Value × Nat)) (i : Nat), Instr.findNow .string (sv t) (entG sv l) i = some (findG t l i)
  | [], i => rfl
  | x :: r, i => by
    have ih := now_str t r (i + 1)
    simp only [entG, List.map_cons, Instr.findNow, sv, Instr.sameNow, findG]
    by_cases h : t = x.1
    · have h' : (t == x.1) = true := (MapKept.bytes_beq _ _).2 h
      rw [h', if_pos h]
    · have h' : (t == x.1) = false := by
        cases h2 : (t == x.1)
        · rfl
        · exact absurd ((MapKept.bytes_beq _ _).1 h2) h
      rw [h', if_neg h]; exact ih
theorem strK : KeyK 9 sv := ⟨fun e t W => MapKept.run_checkKey Tryz.underlying9 (by simp [MapKept.IsKey, sv]) e 9999, fun t l W => MapKept.run_findKey Tryz.underlying9 (now_str t l 0), fun t W => by
  have h : (t == t) = true := (MapKept.bytes_beq _ _).2 rfl
  simp [Instr.keyThatStays, Instr.sameBits, sv, h]⟩
end Go.Proofs.YtnahhmcmahbnkaaGreatDoor
